/-
  Words of 32 bits in the walk; what sha.rotr, bits.RotateLeft32 and the reference's rot return. Conditions: a rotation by 1 to 31.
-/
import Derived.Test.YtpmkjnmddglckaaDoorProg
import Derived.Test.YtpmkjnmddglckaaDoorWords
import Derived.Test.YtpmkjnmddglckaaDoorBits
import Derived.Test.YtpmkjnmddglckaaDoorSha
import Derived.WalkMore
import Derived.Outline
import Derived.Laws.ShiftsVarLaws
namespace Go.Proofs.YtpmkjnmddglckaaDoor
open Go.RowKit

/-- A word as an integer. -/
def wi (x : UInt32) : Int := (x.toNat : Int)
def wv (x : UInt32) : Value := .int .u32 (wi x)
theorem u32lt (x : UInt32) : x.toNat < 4294967296 := x.toNat_lt
theorem wi_plus (x y : UInt32) : (wi x + wi y) % 4294967296 = wi (x + y) := by
  unfold wi
  rw [UInt32.toNat_add]; omega
theorem wi_xor (x y : UInt32) : bits .xor .u32 (wi x) (wi y) = wi (x ^^^ y) := by
  unfold wi
  rw [u32_xor_nat _ _ (u32lt x) (u32lt y), UInt32.toNat_xor]
theorem wi_and (x y : UInt32) : bits .and .u32 (wi x) (wi y) = wi (x &&& y) := by
  unfold wi
  rw [u32_and_nat _ _ (u32lt x) (u32lt y), UInt32.toNat_and]
theorem wi_or (x y : UInt32) : bits .or .u32 (wi x) (wi y) = wi (x ||| y) := by
  unfold wi
  rw [u32_or_nat _ _ (u32lt x) (u32lt y), UInt32.toNat_or]
theorem toNat_ofNat32 (n : Nat) (h : n < 4294967296) : (UInt32.ofNat n).toNat = n := by
  rw [UInt32.toNat_ofNat']; exact Nat.mod_eq_of_lt (by omega)
theorem rot_lt (x n : Nat) (hx : x < 4294967296) : x / 2 ^ n ||| x * 2 ^ (32 - n) % 4294967296 < 4294967296 := by
  refine Nat.or_lt_two_pow (n := 32) ?_ (by omega)
  exact Nat.lt_of_le_of_lt (Nat.div_le_self _ _) hx
theorem rot_toNat (x : UInt32) (n : Nat) : (rot x n).toNat = (x.toNat / 2 ^ n ||| x.toNat * 2 ^ (32 - n) % 4294967296) := by
  unfold rot
  exact toNat_ofNat32 _ (rot_lt _ _ (u32lt x))
theorem shr_toNat (x : UInt32) (n : Nat) : (shr x n).toNat = x.toNat / 2 ^ n := by
  unfold shr
  exact toNat_ofNat32 _ (Nat.lt_of_le_of_lt (Nat.div_le_self _ _) (u32lt x))

theorem rot_turn (n : Nat) (h1 : 1 ≤ n) (h2 : n ≤ 31) : bits .and .u64 (IntKind.u64.wrap (-(n : Int))) 31 = 32 - (n : Int) := by
  have e : IntKind.u64.wrap (-(n : Int)) = ((18446744073709551616 - n : Nat) : Int) := by rw [IntKind.wrap_u64]; omega
  have h := u64_and_mask (18446744073709551616 - n) 5 (by omega) (by decide)
  rw [e]
  rw [show ((2 ^ 5 - 1 : Nat) : Int) = 31 from rfl] at h
  rw [h]
  omega
theorem rot_val (x : UInt32) (n : Nat) : bits .or .u32 ((x.toNat : Int) / 2 ^ n) ((x.toNat : Int) * 2 ^ (32 - n) % 4294967296) = ((rot x n).toNat : Int) := by
  have h1 : (x.toNat : Int) / 2 ^ n = ((x.toNat / 2 ^ n : Nat) : Int) := by push_cast; rfl
  have h2 : (x.toNat : Int) * 2 ^ (32 - n) % 4294967296 = ((x.toNat * 2 ^ (32 - n) % 4294967296 : Nat) : Int) := by rw [Int.natCast_emod, Int.natCast_mul, Int.natCast_pow]; rfl
  have hx := u32lt x
  rw [h1, h2, u32_or_nat _ _ (Nat.lt_of_le_of_lt (Nat.div_le_self _ _) hx) (Nat.mod_lt _ (by decide)), rot_toNat]
theorem u32_or_comm (a b : Int) : bits .or .u32 a b = bits .or .u32 b a := by simp only [bits, BitVec.or_comm]

theorem wi_shr3 (x : UInt32) : wi x / 8 = wi (shr x 3) := by
  unfold wi
  rw [shr_toNat]; omega
theorem wi_shr10 (x : UInt32) : wi x / 1024 = wi (shr x 10) := by
  unfold wi
  rw [shr_toNat]; omega

set_option maxHeartbeats 400000 in
theorem rotateLeft_any (x : UInt32) (n : Nat) (w : World) (h1 : 1 ≤ n) (h2 : n ≤ 31) :
    Calls Tryd.prog 59 #[.int .u32 (wi x), .int .i64 (-(n : Int))] w fun e w' => e = .returned (.int .u32 (wi (rot x n))) ∧ w = w' := by
  unfold wi
  have hx := u32lt x
  have HV := Lib.hid (rot_val x n)
  have ht := rot_turn n h1 h2
  go_enter Tryd.func59, Tryd.ntmps59
  go_wp2_with fail
  go_ret
  refine ⟨?_, rfl⟩
  show Ending.returned (Value.int IntKind.u32 (bits BinOp.or IntKind.u32 ((x.toNat : Int) * 2 ^ (32 - n) % 4294967296) ((x.toNat : Int) / 2 ^ (32 - (32 - n))))) = _
  rw [u32_or_comm, show 32 - (32 - n) = n by omega, HV.out]

set_option maxHeartbeats 400000 in
theorem rotr_any (x : UInt32) (n : Int) (w : World) (h1 : 1 ≤ n) (h2 : n ≤ 31) :
    Calls Tryd.prog 57 #[.int .u32 (wi x), .int .i64 n] w fun e w' => e = .returned (.int .u32 (wi (rot x n.toNat))) ∧ w' = w := by
  obtain ⟨n, rfl⟩ := Int.eq_ofNat_of_zero_le (show 0 ≤ n by omega)
  have hc := fun W => Lib.hid (rotateLeft_any x n W (by omega) (by omega))
  go_enter Tryd.func57, Tryd.ntmps57
  go_wp2_with fail
  refine (hc _).out.mono ?_
  rintro e w' ⟨rfl, rfl⟩
  go_wp2_with fail
  go_ret
  exact ⟨rfl, rfl⟩

set_option maxHeartbeats 400000 in
theorem refRot_any (x : UInt32) (n : Int) (w : World) (h1 : 1 ≤ n) (h2 : n ≤ 31) :
    Calls Tryd.prog 55 #[.int .u32 (wi x), .int .i64 n] w fun e w' => e = .returned (.int .u32 (wi (rot x n.toNat))) ∧ ∃ m, w' = w.drewN m := by
  obtain ⟨n, rfl⟩ := Int.eq_ofNat_of_zero_le (show 0 ≤ n by omega)
  unfold wi
  have hx := u32lt x
  have HV := Lib.hid (rot_val x n)
  go_enter Tryd.func55, Tryd.ntmps55
  go_wp2_with fail
  go_quiet (fail)
  go_wp2_with fail
  go_ret
  refine ⟨?_, _, rfl⟩
  show Ending.returned (Value.int IntKind.u32 (bits BinOp.or IntKind.u32 ((x.toNat : Int) / 2 ^ n) ((x.toNat : Int) * 2 ^ (32 - n) % 4294967296))) = Ending.returned (Value.int IntKind.u32 ((rot x n).toNat : Int))
  rw [HV.out]
end Go.Proofs.YtpmkjnmddglckaaDoor
