/-
  What math/bits.Len and merkle's split return: the library's contract laid at this program, and a walk. Condition: between 2 and 1000 leaves.
-/
import Derived.Test.YtfmcgcdppbcfjaaDoorMerkle
import Derived.Lib.ItoaNum
import Derived.Shelf.Small.Bits
namespace Go.Proofs.YtfmcgcdppbcfjaaDoor
open Go.RowKit

/-- The library's numbers at this program. -/
def lenRen : Go.Shelf.Ren :=
  ⟨fun n => match n with | 125 => 88 | 128 => 93 | 129 => 94 | n => n,
   fun n => match n with | 3 => 3 | 4 => 4 | 5 => 5 | 9 => 9 | 46 => 110 | 51 => 101 | 53 => 97 | n => n, fun n => n⟩
set_option maxRecDepth 1000000 in
theorem laysLen : Lays.n125 Tryd.prog lenRen :=
  { mixed := by kernel_rfl,
    f125 := by kernel_rfl,
    f128 := by kernel_rfl,
    f129 := by kernel_rfl,
    t3 := by kernel_rfl,
    a3 := fun w => by kernel_rfl,
    z3 := fun w => by kernel_rfl,
    v3 := fun w => by kernel_rfl,
    t4 := by kernel_rfl,
    a4 := fun w => by kernel_rfl,
    z4 := fun w => by kernel_rfl,
    v4 := fun w => by kernel_rfl,
    t5 := by kernel_rfl,
    a5 := fun w => by kernel_rfl,
    z5 := fun w => by kernel_rfl,
    v5 := fun w => by kernel_rfl,
    t9 := by kernel_rfl,
    a9 := fun w => by kernel_rfl,
    z9 := fun w => by kernel_rfl,
    v9 := fun w => by kernel_rfl,
    t46 := by kernel_rfl,
    a46 := fun w => by kernel_rfl,
    z46 := fun w => by kernel_rfl,
    v46 := fun w => by kernel_rfl,
    t51 := by kernel_rfl,
    a51 := fun w => by kernel_rfl,
    z51 := fun w => by kernel_rfl,
    v51 := fun w => by kernel_rfl,
    t53 := by kernel_rfl,
    a53 := fun w => by kernel_rfl,
    z53 := fun w => by kernel_rfl,
    v53 := fun w => by kernel_rfl }
theorem len_any (x : Nat) (hx : x ≤ 1000000) (w : World) : Calls Tryd.prog 88 #[.int .u64 (x : Int)] w fun e w' => e = .returned (.int .i64 (Lib.bitLen x : Int)) ∧ w' = w :=
  (Any.bits_Len laysLen (x : Int) w (by omega) (by omega)).mono (fun _ _ h => by simpa using h)

theorem bitLen_of (x : Nat) (h0 : x ≠ 0) (hx : x < 1024) : ∃ e, e < 10 ∧ Lib.bitLen x = e + 1 ∧ 2 ^ e ≤ x ∧ x < 2 * 2 ^ e := by
  obtain ⟨h1, h2, h3⟩ := Lib.bitLenAux_bounds 64 x (by omega) h0
  have h4 := Lib.bitLen_le x 10 (by omega) (by omega)
  unfold Lib.bitLen at h4 ⊢
  refine ⟨Lib.bitLenAux 64 x - 1, by omega, by omega, h2, ?_⟩
  rw [show Lib.bitLenAux 64 x = (Lib.bitLenAux 64 x - 1) + 1 by omega, Nat.pow_succ] at h3
  omega

set_option maxRecDepth 100000 in
set_option maxHeartbeats 1000000 in
theorem split_any (n : Nat) (h2 : 2 ≤ n) (hn : n ≤ 1000) (w : World) : Calls Tryd.prog 73 #[.int .i64 (n : Int)] w fun e w' => e = .returned (.int .i64 (split n : Int)) ∧ w' = w := by
  obtain ⟨x, rfl⟩ : ∃ x, n = x + 1 := ⟨n - 1, by omega⟩
  obtain ⟨e, he, hb, h3, h4⟩ := bitLen_of x (by omega) (by omega)
  have HS := Lib.hid (split_eq (n := x + 1) (e := e) (by omega) (by omega))
  have HB := Lib.hid hb
  have HL := fun W => Lib.hid (len_any x (by omega) W)
  generalize split (x + 1) = S at *
  clear hb h3 h4
  go_enter Tryd.func73, Tryd.ntmps73
  go_wp2_with fail
  refine (HL _).out.mono ?_
  rintro v w' ⟨rfl, rfl⟩
  rw [HB.out]
  clear HL HB
  obtain rfl | rfl | rfl | rfl | rfl | rfl | rfl | rfl | rfl | rfl : e = 0 ∨ e = 1 ∨ e = 2 ∨ e = 3 ∨ e = 4 ∨ e = 5 ∨ e = 6 ∨ e = 7 ∨ e = 8 ∨ e = 9 := by omega
  all_goals
    go_wp2_with fail
    go_ret
    refine ⟨?_, rfl⟩
    rw [← HS.out]
    rfl
end Go.Proofs.YtfmcgcdppbcfjaaDoor
