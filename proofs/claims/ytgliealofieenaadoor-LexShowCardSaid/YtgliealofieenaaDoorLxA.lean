/-
  What lex.white, letter and digit return, and the reference's class and Blank: contracts by walks. No condition.
-/
import Derived.Test.YtgliealofieenaaDoorLxW
set_option linter.unusedSimpArgs false
set_option linter.unusedVariables false
namespace Go.Proofs.YtgliealofieenaaDoor
open Go.RowKit

/-- A bool comes back; the world is as it was. -/
def TellsP (b : Bool) (w : World) (e : Ending) (w' : World) : Prop := e = .returned (.bool b) ∧ w = w'
set_option maxRecDepth 100000 in
set_option maxHeartbeats 4000000 in
theorem white_any (r : Int) (w : World) : Calls Tryd.prog 18 #[.int .i32 r] w (TellsP (lxWh r) w) := by
  unfold lxWh
  cases h1 : (r == 9) <;> cases h2 : (r == 10) <;> cases h3 : (r == 32)
  all_goals (go_enter Tryd.func18, Tryd.ntmps18; go_wp2_with fail; go_ret; exact ⟨rfl, rfl⟩)
set_option maxRecDepth 100000 in
set_option maxHeartbeats 4000000 in
theorem letter_any (r : Int) (w : World) : Calls Tryd.prog 26 #[.int .i32 r] w (TellsP (lxLet r) w) := by
  unfold lxLet
  cases h1 : decide ((97 : Int) ≤ r) <;> cases h2 : decide (r ≤ 122) <;> cases h3 : decide ((65 : Int) ≤ r) <;> cases h4 : decide (r ≤ 90)
  all_goals (go_enter Tryd.func26, Tryd.ntmps26; go_wp2_with fail; go_ret; exact ⟨rfl, rfl⟩)
set_option maxRecDepth 100000 in
set_option maxHeartbeats 4000000 in
theorem digit_any (r : Int) (w : World) : Calls Tryd.prog 28 #[.int .i32 r] w (TellsP (lxDig r) w) := by
  unfold lxDig
  cases h1 : decide ((48 : Int) ≤ r) <;> cases h2 : decide (r ≤ 57)
  all_goals (go_enter Tryd.func28, Tryd.ntmps28; go_wp2_with fail; go_ret; exact ⟨rfl, rfl⟩)
def clsZ (r : Int) : Int := if lxLet r = true then 1 else if lxDig r = true then 2 else if r = 95 then 3 else if lxWh r = true then 4 else 0
theorem clsZ_bz (c : UInt8) : clsZ (bz c) = lxCls c := rfl
def TellsN (x : Int) (w : World) (e : Ending) (w' : World) : Prop := e = .returned (.int .i64 x) ∧ w = w'
set_option maxRecDepth 100000 in
set_option maxHeartbeats 4000000 in
theorem class_any (r : Int) (w : World) : Calls Tryd.prog 20 #[.int .u8 r] w (TellsN (clsZ r) w) := by
  have hcase : (97 ≤ r ∧ r ≤ 122) ∨ (65 ≤ r ∧ r ≤ 90) ∨ (48 ≤ r ∧ r ≤ 57) ∨ (r = 95) ∨ (r = 9) ∨ (r = 10) ∨ (r = 32) ∨ (r < 48 ∧ r ≠ 9 ∧ r ≠ 10 ∧ r ≠ 32) ∨ (58 ≤ r ∧ r ≤ 64) ∨ (91 ≤ r ∧ r ≤ 96 ∧ r ≠ 95) ∨ (123 ≤ r) := by omega
  rcases hcase with hr | hr | hr | hr | hr | hr | hr | hr | hr | hr | hr
  · have HV : Hid (clsZ r = 1) := Lib.hid (by unfold clsZ; rw [if_pos (lxLet_iff.2 (by omega))])
    generalize clsZ r = V at *
    have q1 : decide ((97 : Int) ≤ r) = true := decide_eq_true (by omega)
    have q2 : decide (r ≤ 122) = true := decide_eq_true (by omega)
    clear hr
    go_enter Tryd.func20, Tryd.ntmps20
    go_wp2_with fail
    go_ret
    exact ⟨by rw [HV.out]; rfl, rfl⟩
  · have HV : Hid (clsZ r = 1) := Lib.hid (by unfold clsZ; rw [if_pos (lxLet_iff.2 (by omega))])
    generalize clsZ r = V at *
    have q1 : decide ((97 : Int) ≤ r) = false := decide_eq_false (by omega)
    have q3 : decide ((65 : Int) ≤ r) = true := decide_eq_true (by omega)
    have q4 : decide (r ≤ 90) = true := decide_eq_true (by omega)
    clear hr
    go_enter Tryd.func20, Tryd.ntmps20
    go_wp2_with fail
    go_ret
    exact ⟨by rw [HV.out]; rfl, rfl⟩
  · have HV : Hid (clsZ r = 2) := Lib.hid (by unfold clsZ; rw [lxLet_no (by omega), if_neg (by decide), if_pos (lxDig_iff.2 (by omega))])
    generalize clsZ r = V at *
    have q1 : decide ((97 : Int) ≤ r) = false := decide_eq_false (by omega)
    have q3 : decide ((65 : Int) ≤ r) = false := decide_eq_false (by omega)
    have q5 : decide ((48 : Int) ≤ r) = true := decide_eq_true (by omega)
    have q6 : decide (r ≤ 57) = true := decide_eq_true (by omega)
    clear hr
    go_enter Tryd.func20, Tryd.ntmps20
    go_wp2_with fail
    go_ret
    exact ⟨by rw [HV.out]; rfl, rfl⟩
  · have HV : Hid (clsZ r = 3) := Lib.hid (by unfold clsZ; rw [lxLet_no (by omega), if_neg (by decide), lxDig_no (by omega), if_neg (by decide), if_pos (by omega)])
    generalize clsZ r = V at *
    have q1 : decide ((97 : Int) ≤ r) = false := decide_eq_false (by omega)
    have q3 : decide ((65 : Int) ≤ r) = true := decide_eq_true (by omega)
    have q4 : decide (r ≤ 90) = false := decide_eq_false (by omega)
    have q5 : decide ((48 : Int) ≤ r) = true := decide_eq_true (by omega)
    have q6 : decide (r ≤ 57) = false := decide_eq_false (by omega)
    have e1 : (r == 95) = true := by rw [beq_iff_eq]; omega
    clear hr
    go_enter Tryd.func20, Tryd.ntmps20
    go_wp2_with fail
    go_ret
    exact ⟨by rw [HV.out]; rfl, rfl⟩
  · have HV : Hid (clsZ r = 4) := Lib.hid (by unfold clsZ; rw [lxLet_no (by omega), if_neg (by decide), lxDig_no (by omega), if_neg (by decide), if_neg (by omega), if_pos (lxWh_iff.2 (by omega))])
    generalize clsZ r = V at *
    have q1 : decide ((97 : Int) ≤ r) = false := decide_eq_false (by omega)
    have q3 : decide ((65 : Int) ≤ r) = false := decide_eq_false (by omega)
    have q5 : decide ((48 : Int) ≤ r) = false := decide_eq_false (by omega)
    have e1 : (r == 95) = false := by rw [beq_eq_false_iff_ne]; omega
    have e2 : (r == 9) = true := by rw [beq_iff_eq]; omega
    clear hr
    go_enter Tryd.func20, Tryd.ntmps20
    go_wp2_with fail
    go_ret
    exact ⟨by rw [HV.out]; rfl, rfl⟩
  · have HV : Hid (clsZ r = 4) := Lib.hid (by unfold clsZ; rw [lxLet_no (by omega), if_neg (by decide), lxDig_no (by omega), if_neg (by decide), if_neg (by omega), if_pos (lxWh_iff.2 (by omega))])
    generalize clsZ r = V at *
    have q1 : decide ((97 : Int) ≤ r) = false := decide_eq_false (by omega)
    have q3 : decide ((65 : Int) ≤ r) = false := decide_eq_false (by omega)
    have q5 : decide ((48 : Int) ≤ r) = false := decide_eq_false (by omega)
    have e1 : (r == 95) = false := by rw [beq_eq_false_iff_ne]; omega
    have e2 : (r == 9) = false := by rw [beq_eq_false_iff_ne]; omega
    have e3 : (r == 10) = true := by rw [beq_iff_eq]; omega
    clear hr
    go_enter Tryd.func20, Tryd.ntmps20
    go_wp2_with fail
    go_ret
    exact ⟨by rw [HV.out]; rfl, rfl⟩
  · have HV : Hid (clsZ r = 4) := Lib.hid (by unfold clsZ; rw [lxLet_no (by omega), if_neg (by decide), lxDig_no (by omega), if_neg (by decide), if_neg (by omega), if_pos (lxWh_iff.2 (by omega))])
    generalize clsZ r = V at *
    have q1 : decide ((97 : Int) ≤ r) = false := decide_eq_false (by omega)
    have q3 : decide ((65 : Int) ≤ r) = false := decide_eq_false (by omega)
    have q5 : decide ((48 : Int) ≤ r) = false := decide_eq_false (by omega)
    have e1 : (r == 95) = false := by rw [beq_eq_false_iff_ne]; omega
    have e2 : (r == 9) = false := by rw [beq_eq_false_iff_ne]; omega
    have e3 : (r == 10) = false := by rw [beq_eq_false_iff_ne]; omega
    have e4 : (r == 32) = true := by rw [beq_iff_eq]; omega
    clear hr
    go_enter Tryd.func20, Tryd.ntmps20
    go_wp2_with fail
    go_ret
    exact ⟨by rw [HV.out]; rfl, rfl⟩
  · have HV : Hid (clsZ r = 0) := Lib.hid (by unfold clsZ; rw [lxLet_no (by omega), if_neg (by decide), lxDig_no (by omega), if_neg (by decide), if_neg (by omega), lxWh_no (by omega), if_neg (by decide)])
    generalize clsZ r = V at *
    have q1 : decide ((97 : Int) ≤ r) = false := decide_eq_false (by omega)
    have q3 : decide ((65 : Int) ≤ r) = false := decide_eq_false (by omega)
    have q5 : decide ((48 : Int) ≤ r) = false := decide_eq_false (by omega)
    have e1 : (r == 95) = false := by rw [beq_eq_false_iff_ne]; omega
    have e2 : (r == 9) = false := by rw [beq_eq_false_iff_ne]; omega
    have e3 : (r == 10) = false := by rw [beq_eq_false_iff_ne]; omega
    have e4 : (r == 32) = false := by rw [beq_eq_false_iff_ne]; omega
    clear hr
    go_enter Tryd.func20, Tryd.ntmps20
    go_wp2_with fail
    go_ret
    exact ⟨by rw [HV.out]; rfl, rfl⟩
  · have HV : Hid (clsZ r = 0) := Lib.hid (by unfold clsZ; rw [lxLet_no (by omega), if_neg (by decide), lxDig_no (by omega), if_neg (by decide), if_neg (by omega), lxWh_no (by omega), if_neg (by decide)])
    generalize clsZ r = V at *
    have q1 : decide ((97 : Int) ≤ r) = false := decide_eq_false (by omega)
    have q3 : decide ((65 : Int) ≤ r) = false := decide_eq_false (by omega)
    have q5 : decide ((48 : Int) ≤ r) = true := decide_eq_true (by omega)
    have q6 : decide (r ≤ 57) = false := decide_eq_false (by omega)
    have e1 : (r == 95) = false := by rw [beq_eq_false_iff_ne]; omega
    have e2 : (r == 9) = false := by rw [beq_eq_false_iff_ne]; omega
    have e3 : (r == 10) = false := by rw [beq_eq_false_iff_ne]; omega
    have e4 : (r == 32) = false := by rw [beq_eq_false_iff_ne]; omega
    clear hr
    go_enter Tryd.func20, Tryd.ntmps20
    go_wp2_with fail
    go_ret
    exact ⟨by rw [HV.out]; rfl, rfl⟩
  · have HV : Hid (clsZ r = 0) := Lib.hid (by unfold clsZ; rw [lxLet_no (by omega), if_neg (by decide), lxDig_no (by omega), if_neg (by decide), if_neg (by omega), lxWh_no (by omega), if_neg (by decide)])
    generalize clsZ r = V at *
    have q1 : decide ((97 : Int) ≤ r) = false := decide_eq_false (by omega)
    have q3 : decide ((65 : Int) ≤ r) = true := decide_eq_true (by omega)
    have q4 : decide (r ≤ 90) = false := decide_eq_false (by omega)
    have q5 : decide ((48 : Int) ≤ r) = true := decide_eq_true (by omega)
    have q6 : decide (r ≤ 57) = false := decide_eq_false (by omega)
    have e1 : (r == 95) = false := by rw [beq_eq_false_iff_ne]; omega
    have e2 : (r == 9) = false := by rw [beq_eq_false_iff_ne]; omega
    have e3 : (r == 10) = false := by rw [beq_eq_false_iff_ne]; omega
    have e4 : (r == 32) = false := by rw [beq_eq_false_iff_ne]; omega
    clear hr
    go_enter Tryd.func20, Tryd.ntmps20
    go_wp2_with fail
    go_ret
    exact ⟨by rw [HV.out]; rfl, rfl⟩
  · have HV : Hid (clsZ r = 0) := Lib.hid (by unfold clsZ; rw [lxLet_no (by omega), if_neg (by decide), lxDig_no (by omega), if_neg (by decide), if_neg (by omega), lxWh_no (by omega), if_neg (by decide)])
    generalize clsZ r = V at *
    have q1 : decide ((97 : Int) ≤ r) = true := decide_eq_true (by omega)
    have q2 : decide (r ≤ 122) = false := decide_eq_false (by omega)
    have q3 : decide ((65 : Int) ≤ r) = true := decide_eq_true (by omega)
    have q4 : decide (r ≤ 90) = false := decide_eq_false (by omega)
    have q5 : decide ((48 : Int) ≤ r) = true := decide_eq_true (by omega)
    have q6 : decide (r ≤ 57) = false := decide_eq_false (by omega)
    have e1 : (r == 95) = false := by rw [beq_eq_false_iff_ne]; omega
    have e2 : (r == 9) = false := by rw [beq_eq_false_iff_ne]; omega
    have e3 : (r == 10) = false := by rw [beq_eq_false_iff_ne]; omega
    have e4 : (r == 32) = false := by rw [beq_eq_false_iff_ne]; omega
    clear hr
    go_enter Tryd.func20, Tryd.ntmps20
    go_wp2_with fail
    go_ret
    exact ⟨by rw [HV.out]; rfl, rfl⟩
set_option maxRecDepth 100000 in
set_option maxHeartbeats 4000000 in
theorem blank_any (c : UInt8) (w : World) : Calls Tryd.prog 15 #[bv c] w (TellsP (lxWh (bz c)) w) := by
  have HC := Lib.hid (class_any (bz c) w)
  have HD : Hid (lxWh (bz c) = (clsZ (bz c) == 4)) := Lib.hid (by rw [clsZ_bz, Bool.eq_iff_iff, beq_iff_eq]; exact cls_wh.symm)
  generalize lxWh (bz c) = V at *
  generalize clsZ (bz c) = K at *
  unfold bz at *
  unfold bv
  go_enter Tryd.func15, Tryd.ntmps15
  go_wp2_with fail
  refine HC.out.mono ?_
  rintro e _ ⟨rfl, rfl⟩
  go_wp2_with fail
  go_ret
  exact ⟨by rw [HD.out]; rfl, rfl⟩
end Go.Proofs.YtgliealofieenaaDoor
