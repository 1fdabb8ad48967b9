/-
  Go's bit operations on numbers of known range, as plain arithmetic. No condition beyond the ranges that stand in each law.
-/
import Derived.WalkKit
import Derived.Laws.BitsAllLaws
import Derived.Laws.Bits128
namespace Go.Proofs.YtpmkjnmddglckaaDoor
open Go.RowKit

theorem i64_not_any (n : Int) (h1 : -9223372036854775808 ≤ n) (h2 : n ≤ 9223372036854775807) : bits .xor .i64 (-1) n = -n - 1 := by
  have h : BitVec.ofInt 64 (-1) ^^^ BitVec.ofInt 64 n = ~~~ (BitVec.ofInt 64 n) := by
    have e : BitVec.ofInt 64 (-1) = BitVec.allOnes 64 := by decide
    rw [e, BitVec.allOnes_xor]
  show IntKind.i64.wrap ((BitVec.ofInt 64 (-1) ^^^ BitVec.ofInt 64 n).toNat : Nat) = -n - 1
  rw [h, BitVec.toNat_not, BitVec.toNat_ofInt, IntKind.wrap_i64]
  omega
theorem u64_and_mask (u i : Nat) (hu : u < 18446744073709551616) (hi : 2 ^ i ≤ 18446744073709551616) : bits .and .u64 (u : Int) ((2 ^ i - 1 : Nat) : Int) = ((u % 2 ^ i : Nat) : Int) := by
  have := Nat.two_pow_pos i
  rw [u64_and_nat u (2 ^ i - 1) hu (by omega), Nat.and_two_pow_sub_one_eq_mod]
theorem u64_and127 (u : Nat) (hu : u < 18446744073709551616) : bits .and .u64 (u : Int) 127 = ((u % 128 : Nat) : Int) := u64_and_mask u 7 hu (by decide)
theorem u64_and1 (u : Nat) (hu : u < 18446744073709551616) : bits .and .u64 (u : Int) 1 = ((u % 2 : Nat) : Int) := u64_and_mask u 1 hu (by decide)
theorem u8_and127 (u : Nat) (hu : u < 256) : bits .and .u8 (u : Int) 127 = ((u % 128 : Nat) : Int) := by
  have h := u8_and_nat u 127 hu (by decide)
  have h2 : u &&& 127 = u % 128 := Nat.and_two_pow_sub_one_eq_mod u 7
  rw [← h2, ← h]; rfl
/-- A sum of parts that share no bit. -/
theorem u64_or_join (a b i : Nat) (hd : a % 2 ^ i = 0) (hb : b < 2 ^ i) (ha : a + b < 18446744073709551616) : bits .or .u64 (a : Int) (b : Int) = ((a + b : Nat) : Int) := by
  rw [u64_or_nat a b (by omega) (by omega)]
  have hq : a = 2 ^ i * (a / 2 ^ i) := by
    have := Nat.div_add_mod a (2 ^ i)
    omega
  rw [hq, ← Nat.two_pow_add_eq_or_of_lt hb (a / 2 ^ i)]
theorem u64_or_comm (a b : Int) : bits .or .u64 a b = bits .or .u64 b a := by simp only [bits, BitVec.or_comm]
theorem u64_or1 (a : Nat) (hd : a % 2 = 0) (ha : a + 1 < 18446744073709551616) : bits .or .u64 (a : Int) 1 = ((a + 1 : Nat) : Int) := u64_or_join a 1 1 hd (by decide) ha
end Go.Proofs.YtpmkjnmddglckaaDoor
