/-
  What wire.getLength and GetBytes return: contracts by walks.
-/
import Derived.Test.YtooiedomcdmefaaGet
import Derived.Test.YtooiedomcdmefaaConv
namespace Go.Proofs.Ytooiedomcdmefaa
open Go.RowKit

/-- What a decoded integer is known to satisfy. -/
theorem getIntGo_ok (t : List UInt8) : ∀ (i u : Nat), i ≤ 9 → u < 2 ^ (7 * i) →
    ((getIntGo i u t).2.2 = 0 ∧ I64 (getIntGo i u t).1 ∧ i < (getIntGo i u t).2.1 ∧ (getIntGo i u t).2.1 ≤ i + t.length ∧ (getIntGo i u t).2.1 ≤ 10) ∨
    (getIntGo i u t = (0, 0, 6)) ∨ getIntGo i u t = (0, 0, 7) := by
  induction t with
  | nil => intro i u _ _; exact .inr (.inl rfl)
  | cons c t ih =>
    intro i u hi hu
    have hc := UInt8.toNat_lt c
    unfold getIntGo
    by_cases h9 : i = 9 ∧ 1 < c.toNat
    · rw [if_pos h9]; exact .inr (.inr rfl)
    · obtain ⟨g1, g2, _⟩ := group_or u c.toNat i hu hc (by omega)
      rw [if_neg h9]
      by_cases hm : 128 ≤ c.toNat
      · rw [if_pos hm]
        rcases ih (i + 1) _ (by omega) g1 with h | h | h
        · exact .inl ⟨h.1, h.2.1, by omega, by have := h.2.2.2.1; rw [List.length_cons]; omega, h.2.2.2.2⟩
        · exact .inr (.inl h)
        · exact .inr (.inr h)
      · rw [if_neg hm]
        by_cases h0 : c.toNat = 0 ∧ 0 < i
        · rw [if_pos h0]; exact .inr (.inr rfl)
        · rw [if_neg h0]
          exact .inl ⟨rfl, unzz_bd _ g2, Nat.lt_succ_self i, by rw [List.length_cons]; show i + 1 ≤ i + (t.length + 1); omega, by show i + 1 ≤ 10; omega⟩
theorem getInt_ok (l : List UInt8) : ((getInt l).2.2 = 0 ∧ I64 (getInt l).1 ∧ 0 < (getInt l).2.1 ∧ (getInt l).2.1 ≤ l.length ∧ (getInt l).2.1 ≤ 10) ∨ (getInt l = (0, 0, 6)) ∨ getInt l = (0, 0, 7) := by
  have h := getIntGo_ok l 0 0 (by omega) (by omega)
  simpa [getInt] using h

/-- A length, of elements of at least z bytes. -/
def getLen (l : List UInt8) (z : Nat) : Int × Nat × Int :=
  if (getInt l).2.2 ≠ 0 then (0, 0, (getInt l).2.2)
  else if (getInt l).1 < 0 then (0, 0, 7)
  else if ((l.length - (getInt l).2.1) / z : Nat) < (getInt l).1 then (0, 0, 6)
  else getInt l
theorem getLen_ok (l : List UInt8) (z : Nat) (hz : 0 < z) : ((getLen l z).2.2 = 0 ∧ 0 ≤ (getLen l z).1 ∧ 0 < (getLen l z).2.1 ∧ (getLen l z).2.1 ≤ 10 ∧ (getLen l z).2.1 + (getLen l z).1.toNat * z ≤ l.length) ∨
    (getLen l z = (0, 0, 6)) ∨ getLen l z = (0, 0, 7) := by
  unfold getLen
  rcases getInt_ok l with h | h | h
  · rw [if_neg (by simp [h.1])]
    by_cases h1 : (getInt l).1 < 0
    · rw [if_pos h1]; exact .inr (.inr rfl)
    · rw [if_neg h1]
      by_cases h2 : ((l.length - (getInt l).2.1) / z : Nat) < (getInt l).1
      · rw [if_pos h2]; exact .inr (.inl rfl)
      · rw [if_neg h2]
        refine .inl ⟨h.1, by omega, h.2.2.1, h.2.2.2.2, ?_⟩
        have h3 : (getInt l).1.toNat ≤ (l.length - (getInt l).2.1) / z := by omega
        have h4 := (Nat.le_div_iff_mul_le hz).1 h3
        have := h.2.2.2.1
        omega
  · rw [h]; exact .inr (.inl rfl)
  · rw [h]; exact .inr (.inr rfl)

set_option maxRecDepth 100000 in
set_option maxHeartbeats 1000000 in
theorem getLen_any (A : Option Addr) (c : Nat) (l : List UInt8) (n z : Nat) (w : World) (C : Nat) (hl : Reads w C 1 A n (bvs l)) (hn : n ≤ 1000000000000) (hz : 0 < z) (hz2 : z ≤ 1000) :
    Calls Try.prog 36 #[.slice A n c, .int .i64 (z : Int)] w (Rets (getLen l z) w) := by
  have HL := Lib.hid hl.bytes_len
  have hok := getInt_ok l
  obtain ⟨m, u, e, hr⟩ : ∃ m u e, getInt l = (m, u, e) := ⟨_, _, _, rfl⟩
  rw [hr] at hok
  have HR := Lib.hid hr
  have hcon := getInt_any A c l n w C hl hn
  rw [hr] at hcon
  unfold Rets at hcon
  have HC := Lib.hid hcon
  clear hr hcon
  rcases hok with ⟨he, hm, hu0, hul, hu10⟩ | he | he
  · simp only at he hm hu0 hul hu10
    subst he
    rw [HL.out] at hul
    obtain ⟨hm1, hm2⟩ := hm
    by_cases h1 : m < 0
    · have HE : Hid (getLen l z = (0, 0, 7)) := by show _ = _; unfold getLen; rw [HR.out]; simp [h1]
      go_enter Try.func36, Try.ntmps36
      go_wp2_with fail
      refine HC.out.mono ?_
      rintro e w1 ⟨rfl, rfl⟩
      go_wp2_with fail
      go_ret3
      exact ⟨by rw [HE.out]; rfl, rfl⟩
    · obtain ⟨q, hq⟩ : ∃ q : Nat, q = (n - u) / z := ⟨_, rfl⟩
      have hq1 : ((n : Int) - (u : Int)) / (z : Int) = (q : Int) := by rw [hq]; rw [← Int.ofNat_sub hul]; rfl
      have hqn : q ≤ n := by rw [hq]; exact Nat.le_trans (Nat.div_le_self _ _) (Nat.sub_le _ _)
      have HQ := Lib.hid hq
      clear hq
      by_cases h2 : (q : Int) < m
      · have HE : Hid (getLen l z = (0, 0, 6)) := by
          show _ = _
          unfold getLen
          rw [HR.out, HL.out, ← HQ.out]
          rw [if_neg (by simp), if_neg h1, if_pos h2]
        go_enter Try.func36, Try.ntmps36
        go_wp2_with fail
        refine HC.out.mono ?_
        rintro e w1 ⟨rfl, rfl⟩
        go_wp2_with fail
        go_ret3
        exact ⟨by rw [HE.out]; rfl, rfl⟩
      · have HE : Hid (getLen l z = (m, u, 0)) := by
          show _ = _
          unfold getLen
          rw [HR.out, HL.out, ← HQ.out]
          rw [if_neg (by simp), if_neg h1, if_neg h2]
        go_enter Try.func36, Try.ntmps36
        go_wp2_with fail
        refine HC.out.mono ?_
        rintro e w1 ⟨rfl, rfl⟩
        go_wp2_with fail
        go_ret3
        exact ⟨by rw [HE.out]; rfl, rfl⟩
  all_goals
    injection he with h1 h2
    injection h2 with h2 h3
    subst h1 h2 h3
  · have HE : Hid (getLen l z = (0, 0, 6)) := by show _ = _; unfold getLen; rw [HR.out]; rfl
    go_enter Try.func36, Try.ntmps36
    go_wp2_with fail
    refine HC.out.mono ?_
    rintro e w1 ⟨rfl, rfl⟩
    go_wp2_with fail
    go_ret3
    exact ⟨by rw [HE.out]; rfl, rfl⟩
  · have HE : Hid (getLen l z = (0, 0, 7)) := by show _ = _; unfold getLen; rw [HR.out]; rfl
    go_enter Try.func36, Try.ntmps36
    go_wp2_with fail
    refine HC.out.mono ?_
    rintro e w1 ⟨rfl, rfl⟩
    go_wp2_with fail
    go_ret3
    exact ⟨by rw [HE.out]; rfl, rfl⟩
end Go.Proofs.Ytooiedomcdmefaa
