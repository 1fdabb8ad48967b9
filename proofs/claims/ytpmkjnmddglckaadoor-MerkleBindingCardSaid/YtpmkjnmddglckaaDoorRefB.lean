/-
  What the reference's Bytes returns: a contract by a walk.
-/
import Derived.Test.YtpmkjnmddglckaaDoorEncB
import Derived.Test.YtpmkjnmddglckaaDoorConv
namespace Go.Proofs.YtpmkjnmddglckaaDoor
open Go.RowKit

set_option maxRecDepth 100000 in
set_option maxHeartbeats 1000000 in
theorem refBytes_any (s : ByteArray) (w : World) (hs : s.size ≤ 100000000000) : Calls Tryd.prog 36 #[.string s] w (Gives (encBytes s.data.toList) w) := by
  obtain ⟨i0, hi0, hz0, hz1, hz2⟩ := info_parts info_u8
  have hl : (encInt (s.size : Int)).length ≤ 10 := leb_le10 _ (zz_lt _ (by omega) (by omega))
  have hsz : s.data.toList.length = s.size := by simp
  have HSZ := Lib.hid hsz
  clear hsz
  go_enter Tryd.func36, Tryd.ntmps36
  go_wp2_with fail
  refine (refInt_any (s.size : Int) _ (by omega) (by omega)).mono ?_
  rintro e w1 ⟨v, rfl, hown, hbel⟩
  obtain ⟨A, c, w2, hrun, hc, hr2, hbel2⟩ : ∃ A c w2, (∀ (ρ : Operand → Value) (o : Oper), o.op = .convert 9 39 (.tmp 6) → ρ (.tmp 6) = .string s → (execOp ρ o).run Tryd.prog w1 = .ok (.value (.slice A s.size c)) w2) ∧ s.size ≤ c ∧ Reads w2 w2.heap.size 1 A s.size (bvs s.data.toList) ∧ Below w1.heap.size w1 w2 := by
    obtain ⟨A, c, w2, h1, h2, h3, h4⟩ := exec_bytes_of (P := Tryd.prog) (ρ := fun _ => .string s) (o := ⟨none, .convert 9 39 (.tmp 6), 0, "", #[], none⟩) w1 _ _ _ _ rfl Tryd.underlying9 Tryd.underlying5 Tryd.underlying39 (s := s) rfl
    refine ⟨A, c, w2, fun ρ o ho hx => ?_, h2, h3, h4⟩
    unfold execOp at h1 ⊢
    simp only [ho, hx]
    exact h1
  have HRUN := Lib.hid hrun
  clear hrun
  have hb2 : Below w.heap.size w w2 := hbel.trans (hbel2.mono hbel.size)
  have hown2 := own_below hown hbel2
  go_wp2_with (first
    | (refine wpList_valueW (o := ⟨some 7, _, _, _, _, _⟩) rfl _ (by exact HRUN.out _ _ rfl rfl) ?_)
    | (at_builtin; refine wpList_append_src _ rfl (.tmp 5) (.tmp 7) _ _ rfl w.heap.size 5 i0 _ 1 1 Tryd.underlying39 hi0 hz0 hz1 hz2 rfl _ _ _ rfl hown2 s.size _ (Src.ofReads _ Tryd.underlying39 hr2 (bvs_one _)) (by unfold maxLen; omega) (by omega) hb2.size ?_; intro v2 w3 hown3 hbel3))
  go_ret
  refine ⟨v2, rfl, ?_, hb2.trans hbel3⟩
  rw [← bvs_append] at hown3
  have e : (encBytes s.data.toList).length = (encInt (s.size : Int)).length + s.size := by unfold encBytes; rw [List.length_append, HSZ.out]
  rw [e]
  unfold encBytes
  rw [HSZ.out]
  exact hown3

end Go.Proofs.YtpmkjnmddglckaaDoor
