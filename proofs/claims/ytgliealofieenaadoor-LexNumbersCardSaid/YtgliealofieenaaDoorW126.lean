/-
  LexNumbers returns true: by walks. No condition.
-/
import Derived.Test.YtgliealofieenaaDoorSan12
import Derived.Test.YtgliealofieenaaDoorLxN
set_option linter.unusedSimpArgs false
set_option linter.unusedVariables false
namespace Go.Proofs.YtgliealofieenaaDoor
open Go.RowKit

set_option maxRecDepth 100000 in
set_option maxHeartbeats 16000000 in
theorem w126_any (N : Nat) (w : World) (hN : N < 4294967296) (hK : Sgs w) : Calls Tryd.prog 8 #[.int .u32 (N : Int)] w (TellsB true w) := by
  have HSA := Lib.hid (san12_any w hK)
  have HK := Lib.hid hK
  clear hK
  unfold TellsB at *
  have hx : N % 200000 < 200000 := Nat.mod_lt _ (by decide)
  have hxc : ((N % 200000 : Nat) : Int) = (N : Int) % 200000 := by omega
  have HDC := fun W => Lib.hid (decimal_any (N % 200000) W (by omega))
  have hlen := dec_len 20 (N % 200000) 5 (by omega)
  have hms : (mk (dec 20 (N % 200000))).size ≤ 6 := by rw [mk_size]; exact hlen
  have hz : lxAll (⟨#[48]⟩ ++ mk (dec 20 (N % 200000))) = none := by
    unfold lxAll
    rw [tl_app, tl_mk]
    exact lx_zero_dec _
  obtain ⟨_, hz2⟩ := tk_none hz
  have hs2 : (⟨#[48]⟩ ++ mk (dec 20 (N % 200000)) : ByteArray).size ≤ 1500 := by
    rw [← tl_len, tl_app, List.length_append, tl_len]
    have h1 : (⟨#[48]⟩ : ByteArray).size = 1 := rfl
    rw [tl_len]
    omega
  have HT2 := fun W hW => Lib.hid (tokens_any (⟨#[48]⟩ ++ mk (dec 20 (N % 200000))) W hs2 hW)
  rw [hz2] at HT2
  have HT1 := fun W hW => Lib.hid (tokens_any (mk (dec 20 (N % 200000))) W (by omega) hW)
  by_cases hb : 65536 ≤ N % 200000
  · have hn : lxAll (mk (dec 20 (N % 200000))) = none := by unfold lxAll; rw [tl_mk]; exact lx_dec_big hb hx
    obtain ⟨_, h2⟩ := tk_none hn
    rw [h2] at HT1
    have q : decide ((65536 : Int) ≤ (N : Int) % 200000) = true := decide_eq_true (by omega)
    rw [hxc] at HDC
    clear hz hz2 hn h2 hxc hx hb hlen hs2
    generalize tkL (⟨#[48]⟩ ++ mk (dec 20 (N % 200000))) = T2 at *
    generalize tkL (mk (dec 20 (N % 200000))) = T1 at *
    generalize mk (dec 20 (N % 200000)) = S at *
    go_enter Tryd.func8, Tryd.ntmps8
    go_wp2_with fail
    refine HSA.out.mono ?_
    rintro e w1 ⟨rfl, b1⟩
    go_wp2_with fail
    refine (HDC w1).out.mono ?_
    rintro e w2 ⟨rfl, b2⟩
    have B2 := b1.trans (b2.mono b1.size)
    go_wp2_with fail
    refine (HT1 _ (HK.out.on B2)).out.mono ?_
    rintro e w3 ⟨A, m, c, rfl, r3, hmc, hm, b3⟩
    have B3 := B2.trans (b3.mono B2.size)
    go_wp2_with fail
    refine (HT2 _ (HK.out.on B3)).out.mono ?_
    rintro e w4 ⟨A4, m4, c4, rfl, _, _, _, b4⟩
    have B4 := B3.trans (b4.mono B3.size)
    go_wp2_with fail
    go_ret
    exact ⟨rfl, B4⟩
  · have hn : lxAll (mk (dec 20 (N % 200000))) = some [⟨2, mk (dec 20 (N % 200000)), (N % 200000 : Nat), 0⟩] := by unfold lxAll; rw [tl_mk]; exact lx_dec (by omega)
    obtain ⟨h1, h2⟩ := tk_some hn
    rw [h1, h2, hxc] at HT1
    have q : decide ((65536 : Int) ≤ (N : Int) % 200000) = false := decide_eq_false (by omega)
    rw [hxc] at HDC
    clear hz hz2 hn h1 h2 hxc hx hb hlen hs2
    generalize tkL (⟨#[48]⟩ ++ mk (dec 20 (N % 200000))) = T2 at *
    generalize mk (dec 20 (N % 200000)) = S at *
    go_enter Tryd.func8, Tryd.ntmps8
    go_wp2_with fail
    refine HSA.out.mono ?_
    rintro e w1 ⟨rfl, b1⟩
    go_wp2_with fail
    refine (HDC w1).out.mono ?_
    rintro e w2 ⟨rfl, b2⟩
    have B2 := b1.trans (b2.mono b1.size)
    go_wp2_with fail
    refine (HT1 _ (HK.out.on B2)).out.mono ?_
    rintro e w3 ⟨A, m, c, rfl, r3, hmc, hm, b3⟩
    have B3 := B2.trans (b3.mono B2.size)
    go_wp2_with fail
    refine (HT2 _ (HK.out.on B3)).out.mono ?_
    rintro e w4 ⟨A4, m4, c4, rfl, _, _, _, b4⟩
    have B4 := B3.trans (b4.mono B3.size)
    have hm1 : 1 = m := r3.tk_len
    have HM1 := Lib.hid hm1.symm
    have qm : ((m : Int) != 1) = false := by rw [HM1.out]; rfl
    have hm0 : 0 < m := by omega
    have r4 := r3.on b4
    obtain ⟨ad, hA, hlt, e0⟩ := r4.elemT (g := Tk.cs) Tk.cs_len (i := 0) (a := ⟨2, S, (N : Int) % 200000, 0⟩) rfl (by omega)
    rw [show ad.add (0 * 4) = ad by rw [Nat.zero_mul]; unfold Addr.add; simp] at e0
    subst hA
    have E0 := Lib.hid e0
    clear hm1 e0
    go_wp2_with (first
      | ((with_reducible refine wpList_at ⟨some 53, _, _, _, _, _⟩ ?_); refine wpList_valueG rfl _ (by exact exec_loadTk _ _ rfl ad rfl ⟨2, S, (N : Int) % 200000, 0⟩ E0.out) ?_)
      | ((with_reducible refine wpList_at ⟨some 57, _, _, _, _, _⟩ ?_); refine wpList_valueG rfl _ (by exact exec_eqlTT _ _ _ rfl ⟨2, S, (N : Int) % 200000, 0⟩ rfl rfl) ?_))
    go_ret
    exact ⟨rfl, B4⟩
end Go.Proofs.YtgliealofieenaaDoor
