/-
  What treesig.size and treesig.validate return: contracts by walks. No condition but bounded numbers.
-/
import Derived.Test.YtfmcgcdppbcfjaaDoorTs
namespace Go.Proofs.YtfmcgcdppbcfjaaDoor
open Go.RowKit

set_option maxRecDepth 100000 in
set_option maxHeartbeats 1000000 in
theorem tsize_any (k : Nat) (hk : k ≤ 4) (w : World) : Calls Tryd.prog 35 #[.int .i64 (k : Int)] w fun e w' => e = .returned (.int .i64 ((2 ^ k : Nat) : Int)) ∧ w' = w := by
  rcases (show k = 0 ∨ k = 1 ∨ k = 2 ∨ k = 3 ∨ k = 4 by omega) with rfl | rfl | rfl | rfl | rfl
  all_goals
    go_enter Tryd.func35, Tryd.ntmps35
    go_wp2_with fail
    go_ret
    exact ⟨rfl, rfl⟩

set_option maxRecDepth 100000 in
set_option maxHeartbeats 1000000 in
theorem tvalid_any (h idx : Int) (w : World) : Calls Tryd.prog 23 #[.int .i64 h, .int .i64 idx] w fun e w' => e = .returned (.int .i64 (tErr h idx)) ∧ w' = w := by
  by_cases hv : 0 ≤ h ∧ h ≤ 4
  · obtain ⟨k, rfl⟩ : ∃ k : Nat, h = (k : Int) := ⟨h.toNat, by omega⟩
    have hk4 : k ≤ 4 := by omega
    have HM := Lib.hid (tMany_nat k hk4)
    have HS := fun W => Lib.hid (tsize_any k hk4 W)
    by_cases hi : idx < 0
    · have HE := Lib.hid (tErr_arg (h := (k : Int)) (idx := idx) (Or.inr hi))
      generalize tErr (k : Int) idx = E at *
      go_enter Tryd.func23, Tryd.ntmps23
      go_wp2_with fail
      go_ret
      exact ⟨by rw [HE.out]; rfl, rfl⟩
    · by_cases ho : ((2 ^ k : Nat) : Int) ≤ idx
      · have HE := Lib.hid (tErr_out (h := (k : Int)) (idx := idx) (by rw [HM.out]; have := Nat.two_pow_pos k; omega) (by omega) (by rw [HM.out]; exact ho))
        generalize tErr (k : Int) idx = E at *
        generalize 2 ^ k = M at *
        go_enter Tryd.func23, Tryd.ntmps23
        go_wp2_with fail
        refine (HS _).out.mono ?_
        rintro e _ ⟨rfl, rfl⟩
        go_wp2_with fail
        go_ret
        exact ⟨by rw [HE.out]; rfl, rfl⟩
      · have HE := Lib.hid (tErr_ok (h := (k : Int)) (idx := idx) (by omega) (by rw [HM.out]; omega))
        generalize tErr (k : Int) idx = E at *
        generalize 2 ^ k = M at *
        go_enter Tryd.func23, Tryd.ntmps23
        go_wp2_with fail
        refine (HS _).out.mono ?_
        rintro e _ ⟨rfl, rfl⟩
        go_wp2_with fail
        go_ret
        exact ⟨by rw [HE.out]; rfl, rfl⟩
  · have HE := Lib.hid (tErr_arg (h := h) (idx := idx) (Or.inl (tMany_bad hv)))
    generalize tErr h idx = E at *
    by_cases hn : h < 0
    · go_enter Tryd.func23, Tryd.ntmps23
      go_wp2_with fail
      go_ret
      exact ⟨by rw [HE.out]; rfl, rfl⟩
    · have h5 : 4 < h := by omega
      go_enter Tryd.func23, Tryd.ntmps23
      go_wp2_with fail
      go_ret
      exact ⟨by rw [HE.out]; rfl, rfl⟩
end Go.Proofs.YtfmcgcdppbcfjaaDoor
