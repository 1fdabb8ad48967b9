/-
  The plain functions of layer 1's encodings, and their laws: numbers and lists alone. No condition.
-/
namespace Go.Proofs.YtpmkjnmddglckaaDoor

/-- The zigzag number of an integer. -/
def zz (n : Int) : Nat := if 0 ≤ n then (2 * n).toNat else (-2 * n - 1).toNat
def unzz (u : Nat) : Int := if u % 2 = 0 then (u / 2 : Nat) else -((u / 2 : Nat) : Int) - 1
theorem zz_lt (n : Int) (h1 : -9223372036854775808 ≤ n) (h2 : n ≤ 9223372036854775807) : zz n < 18446744073709551616 := by unfold zz; split <;> omega
theorem unzz_zz (n : Int) : unzz (zz n) = n := by
  unfold zz unzz
  split <;> split <;> omega
theorem zz_unzz (u : Nat) : zz (unzz u) = u := by
  unfold zz unzz
  split <;> split <;> omega
theorem unzz_bd (u : Nat) (h : u < 18446744073709551616) : -9223372036854775808 ≤ unzz u ∧ unzz u ≤ 9223372036854775807 := by unfold unzz; split <;> omega

/-- The groups of seven bits, least first; the first argument bounds their number. -/
def lebF : Nat → Nat → List UInt8
  | 0, u => [UInt8.ofNat u]
  | f + 1, u => if u < 128 then [UInt8.ofNat u] else UInt8.ofNat (u % 128 + 128) :: lebF f (u / 128)
theorem lebF_any : ∀ (f g u : Nat), u ≤ f → u ≤ g → lebF f u = lebF g u
  | 0, g, u, h, _ => by
    obtain rfl : u = 0 := by omega
    cases g <;> simp [lebF]
  | f + 1, 0, u, _, h => by
    obtain rfl : u = 0 := by omega
    simp [lebF]
  | f + 1, g + 1, u, h1, h2 => by
    unfold lebF
    by_cases h : u < 128
    · rw [if_pos h, if_pos h]
    · rw [if_neg h, if_neg h, lebF_any f g (u / 128) (by omega) (by omega)]
def leb (u : Nat) : List UInt8 := lebF u u
theorem leb_small {u : Nat} (h : u < 128) : leb u = [UInt8.ofNat u] := by
  unfold leb
  cases u with
  | zero => rfl
  | succ k => rw [lebF, if_pos h]
theorem leb_more {u : Nat} (h : ¬ u < 128) : leb u = UInt8.ofNat (u % 128 + 128) :: leb (u / 128) := by
  unfold leb
  cases u with
  | zero => exact absurd (by decide) h
  | succ k => rw [lebF, if_neg h, lebF_any k ((k + 1) / 128) ((k + 1) / 128) (by omega) (Nat.le_refl _)]
theorem leb_len (k : Nat) : ∀ u : Nat, u < 128 ^ (k + 1) → (leb u).length ≤ k + 1 := by
  induction k with
  | zero => intro u h; rw [leb_small (by simpa using h)]; simp
  | succ k ih =>
    intro u h
    by_cases hu : u < 128
    · rw [leb_small hu]; simp
    · rw [leb_more hu]
      have := ih (u / 128) (by rw [Nat.pow_succ] at h; omega)
      simp; omega
theorem leb_le10 (u : Nat) (h : u < 18446744073709551616) : (leb u).length ≤ 10 := leb_len 9 u (by omega)
theorem leb_pos (u : Nat) : 0 < (leb u).length := by
  by_cases hu : u < 128
  · rw [leb_small hu]; simp
  · rw [leb_more hu]; simp
/-- The encoding of an integer. -/
def encInt (n : Int) : List UInt8 := leb (zz n)
end Go.Proofs.YtpmkjnmddglckaaDoor
