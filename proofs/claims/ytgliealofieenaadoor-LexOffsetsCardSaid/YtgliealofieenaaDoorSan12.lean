/-
  The law file's sanity holds: a contract by a walk. No condition.
-/
import Derived.Test.YtgliealofieenaaDoorLxI
import Derived.Test.YtgliealofieenaaDoorLxH
set_option linter.unusedSimpArgs false
set_option linter.unusedVariables false
namespace Go.Proofs.YtgliealofieenaaDoor
open Go.RowKit

def san1 : ByteArray := ⟨#[105, 102, 32, 120, 61, 61, 49, 123, 104, 97, 108, 116, 32, 55, 59, 125]⟩
def san2 : ByteArray := ⟨#[97, 32, 38, 32, 98]⟩
def sanT : List Tk := [⟨1, mk [105, 102], 0, 0⟩, ⟨1, mk [120], 0, 3⟩, ⟨3, mk [61, 61], 0, 4⟩, ⟨2, mk [49], 1, 6⟩, ⟨3, mk [123], 0, 7⟩, ⟨1, mk [104, 97, 108, 116], 0, 8⟩, ⟨2, mk [55], 7, 13⟩, ⟨3, mk [59], 0, 14⟩, ⟨3, mk [125], 0, 15⟩]
theorem san1_L : tkL san1 = sanT := by kernel_rfl
theorem san1_E : tkE san1 = 0 := by kernel_rfl
theorem san2_E : tkE san2 = 3 := by kernel_rfl
theorem sanS : shw sanT = [105, 102, 32, 120, 32, 61, 61, 32, 49, 32, 123, 32, 104, 97, 108, 116, 32, 55, 32, 59, 32, 125] := by kernel_rfl
section
variable {ρ : Operand → Value} {o : Oper}
theorem exec_eqlTT (w : World) (x y : Operand) (ho : o.op = .binOp .eql 30 x y 30) (a : Tk) (h1 : ρ x = .agg a.cs.toArray) (h2 : ρ y = .agg a.cs.toArray) :
    (execOp ρ o).run Tryd.prog w = .ok (.value (.bool true)) w := by
  rw [← tkEq_self a]
  exact exec_eqlT w x y ho a a h1 h2
end
set_option maxRecDepth 100000 in
set_option maxHeartbeats 8000000 in
theorem san12_any (w : World) (hK : Sgs w) : Calls Tryd.prog 9 #[] w (TellsB true w) := by
  have H1 := Lib.hid (tokens_any san1 w (by decide) hK)
  have H2 := fun W hW => Lib.hid (tokens_any san2 W (by decide) hW)
  have HK := Lib.hid hK
  rw [san1_L, san1_E] at H1
  rw [san2_E] at H2
  unfold san1 at H1
  unfold san2 at H2
  generalize tkL ⟨#[97, 32, 38, 32, 98]⟩ = T2 at *
  obtain ⟨X, hX⟩ : ∃ X, X = mk (shw sanT) := ⟨_, rfl⟩
  have HSH := fun A n c W (h1 : Reads W W.heap.size 4 A n (tks sanT)) (h2 : n ≤ 1000) => Lib.hid (lshow_any A n c sanT W h1 h2 (by decide))
  rw [← hX] at HSH
  have hXe : (X.toList == [105, 102, 32, 120, 32, 61, 61, 32, 49, 32, 123, 32, 104, 97, 108, 116, 32, 55, 32, 59, 32, 125]) = true := by rw [hX, ByteArray.toList_eq]; show (tl (mk (shw sanT)) == _) = true; rw [tl_mk, sanS]; rfl
  have hXl : X.toList = [105, 102, 32, 120, 32, 61, 61, 32, 49, 32, 123, 32, 104, 97, 108, 116, 32, 55, 32, 59, 32, 125] := by simpa using hXe
  clear hK hX hXl
  go_enter Tryd.func9, Tryd.ntmps9
  go_wp2_with fail
  refine H1.out.mono ?_
  rintro e w1 ⟨A, n, c, rfl, hr1, hnc, hn, b1⟩
  have hlen := hr1.tk_len
  have HN : Hid (n = 9) := Lib.hid (by rw [← hlen]; rfl)
  have hn1 : n ≤ 9 := by rw [HN.out]; exact Nat.le_refl _
  have hn2 : 9 ≤ n := by rw [HN.out]; exact Nat.le_refl _
  clear hlen
  go_wp2_with fail
  refine (H2 w1 (HK.out.on b1)).out.mono ?_
  rintro e w2 ⟨A2, n2, c2, rfl, _, _, _, b2⟩
  have B2 := b1.trans (b2.mono b1.size)
  have hr2 := hr1.on b2
  have q9 : ((n : Int) != 9) = false := by rw [HN.out]; rfl
  obtain ⟨ad, hA, hlt, e2⟩ := hr2.elemT (g := Tk.cs) Tk.cs_len (i := 2) (a := ⟨3, mk [61, 61], 0, 4⟩) rfl (by omega)
  obtain ⟨_, hA3, _, e3⟩ := hr2.elemT (g := Tk.cs) Tk.cs_len (i := 3) (a := ⟨2, mk [49], 1, 6⟩) rfl (by omega)
  obtain ⟨_, hA5, _, e5⟩ := hr2.elemT (g := Tk.cs) Tk.cs_len (i := 5) (a := ⟨1, mk [104, 97, 108, 116], 0, 8⟩) rfl (by omega)
  obtain ⟨_, hA8, _, e8⟩ := hr2.elemT (g := Tk.cs) Tk.cs_len (i := 8) (a := ⟨3, mk [125], 0, 15⟩) rfl (by omega)
  subst hA
  cases hA3
  cases hA5
  cases hA8
  have E2 := Lib.hid e2
  have E3 := Lib.hid e3
  have E5 := Lib.hid e5
  have c83 : w2.cell? ⟨ad.block, ad.off + 32 + 3, none⟩ = some (.int .i64 15) := by have h := tk_cell e8 (j := 2) rfl; rw [add_pos _ _ (by decide)] at h; exact h
  clear e2 e3 e5 e8
  go_wp2_with (first
    | ((with_reducible refine wpList_at ⟨some 25, _, _, _, _, _⟩ ?_); refine wpList_valueG rfl _ (by exact exec_loadTk _ _ rfl (ad.add (2 * 4)) rfl ⟨3, mk [61, 61], 0, 4⟩ E2.out) ?_)
    | ((with_reducible refine wpList_at ⟨some 32, _, _, _, _, _⟩ ?_); refine wpList_valueG rfl _ (by exact exec_loadTk _ _ rfl (ad.add (3 * 4)) rfl ⟨2, mk [49], 1, 6⟩ E3.out) ?_)
    | ((with_reducible refine wpList_at ⟨some 39, _, _, _, _, _⟩ ?_); refine wpList_valueG rfl _ (by exact exec_loadTk _ _ rfl (ad.add (5 * 4)) rfl ⟨1, mk [104, 97, 108, 116], 0, 8⟩ E5.out) ?_)
    | ((with_reducible refine wpList_at ⟨some 27, _, _, _, _, _⟩ ?_); refine wpList_valueG rfl _ (by exact exec_eqlTT _ _ _ rfl ⟨3, mk [61, 61], 0, 4⟩ rfl rfl) ?_)
    | ((with_reducible refine wpList_at ⟨some 34, _, _, _, _, _⟩ ?_); refine wpList_valueG rfl _ (by exact exec_eqlTT _ _ _ rfl ⟨2, mk [49], 1, 6⟩ rfl rfl) ?_)
    | ((with_reducible refine wpList_at ⟨some 41, _, _, _, _, _⟩ ?_); refine wpList_valueG rfl _ (by exact exec_eqlTT _ _ _ rfl ⟨1, mk [104, 97, 108, 116], 0, 8⟩ rfl rfl) ?_))
  refine (HSH _ n c w2 hr2 (by omega)).out.mono ?_
  rintro e w3 ⟨rfl, b3⟩
  have B3 := B2.trans (b3.mono B2.size)
  go_wp2_with fail
  go_ret
  exact ⟨rfl, B3⟩
end Go.Proofs.YtgliealofieenaaDoor
