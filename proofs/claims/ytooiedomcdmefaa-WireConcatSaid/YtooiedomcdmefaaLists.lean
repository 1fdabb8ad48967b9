/-
  What wire.GetBytes, GetInts and their closures return: contracts by walks.
-/
import Derived.Test.YtooiedomcdmefaaGets
namespace Go.Proofs.Ytooiedomcdmefaa
open Go.RowKit

def getBytes (l : List UInt8) : List UInt8 × Nat × Int :=
  if (getLen l 1).2.2 ≠ 0 then ([], 0, (getLen l 1).2.2) else ((l.drop (getLen l 1).2.1).take (getLen l 1).1.toNat, (getLen l 1).2.1 + (getLen l 1).1.toNat, 0)
/-- A string and two integers come back; the world is as it was. -/
def RetsS (r : List UInt8 × Nat × Int) (w : World) (e : Ending) (w' : World) : Prop := e = .returned (.tuple #[.string ⟨r.1.toArray⟩, .int .i64 (r.2.1 : Int), .int .i64 r.2.2]) ∧ w = w'

theorem Reads.sub {w : World} {B n c u m : Nat} {A : Option Addr} {l : List UInt8} (h : Reads w B 1 A n (bvs l)) (hu : u + m ≤ n) (hc : n ≤ c) :
    Reads w B 1 (if c = u then A else A.map (·.add (u * 1))) m (bvs ((l.drop u).take m)) := by
  have h1 := (h.cut (k := u) (cap := c) (by omega) hc).take (k := m) (by omega)
  have e : bvs ((l.drop u).take m) = ((bvs l).drop (u * 1)).take (m * 1) := by unfold bvs; rw [Nat.mul_one, Nat.mul_one, List.map_take, List.map_drop]
  rw [e]
  exact h1

set_option maxRecDepth 100000 in
set_option maxHeartbeats 1000000 in
theorem getBytes_any (A : Option Addr) (c : Nat) (l : List UInt8) (n : Nat) (w : World) (C : Nat) (hl : Reads w C 1 A n (bvs l)) (hn : n ≤ 1000000000000) (hc : n ≤ c) :
    Calls Try.prog 23 #[.slice A n c] w (RetsS (getBytes l) w) := by
  have HL := Lib.hid hl.bytes_len
  have hok := getLen_ok l 1 (by omega)
  obtain ⟨m, u, e, hr⟩ : ∃ m u e, getLen l 1 = (m, u, e) := ⟨_, _, _, rfl⟩
  rw [hr] at hok
  have HR := Lib.hid hr
  have hcon := getLen_any A c l n 1 w C hl hn (by omega) (by omega)
  rw [hr] at hcon
  unfold Rets at hcon
  have HC := Lib.hid hcon
  clear hr hcon
  rcases hok with ⟨he, hm, hu0, hu10, hum⟩ | he | he
  · simp only at he hm hu0 hu10 hum
    subst he
    rw [HL.out] at hum
    obtain ⟨k, rfl⟩ := Int.eq_ofNat_of_zero_le hm
    rw [Int.toNat_natCast] at hum
    have hsub := hl.sub (u := u) (m := k) (c := c) (by omega) hc
    have HE : Hid (getBytes l = ((l.drop u).take k, u + k, 0)) := by show _ = _; unfold getBytes; rw [HR.out]; rfl
    rw [Nat.mul_one] at hsub
    by_cases hcu : c = u
    · rw [if_pos hcu] at hsub
      subst hcu
      have hsub2 : Reads w C 1 A (c + k - c) (bvs ((l.drop c).take k)) := by rw [Nat.add_sub_cancel_left]; exact hsub
      go_enter Try.func23, Try.ntmps23
      go_wp2_with fail
      refine HC.out.mono ?_
      rintro e w1 ⟨rfl, rfl⟩
      go_wp2_with (refine wpList_valueW (o := ⟨some 25, _, _, _, _, _⟩) rfl _ (by exact exec_string_of _ _ _ _ _ rfl Try.underlying26 Try.underlying5 Try.underlying9 rfl hsub2) ?_)
      go_ret3
      exact ⟨by rw [HE.out]; rfl, rfl⟩
    · rw [if_neg hcu] at hsub
      have hsub2 : Reads w C 1 (A.map (·.add u)) (u + k - u) (bvs ((l.drop u).take k)) := by rw [Nat.add_sub_cancel_left]; exact hsub
      go_enter Try.func23, Try.ntmps23
      go_wp2_with fail
      refine HC.out.mono ?_
      rintro e w1 ⟨rfl, rfl⟩
      go_wp2_with (refine wpList_valueW (o := ⟨some 25, _, _, _, _, _⟩) rfl _ (by exact exec_string_of _ _ _ _ _ rfl Try.underlying26 Try.underlying5 Try.underlying9 rfl hsub2) ?_)
      go_ret3
      exact ⟨by rw [HE.out]; rfl, rfl⟩
  · injection he with h1 h2
    injection h2 with h2 h3
    subst h1 h2 h3
    have HE : Hid (getBytes l = ([], 0, 6)) := by show _ = _; unfold getBytes; rw [HR.out]; rfl
    go_enter Try.func23, Try.ntmps23
    go_wp2_with fail
    refine HC.out.mono ?_
    rintro e w1 ⟨rfl, rfl⟩
    go_wp2_with fail
    go_ret3
    exact ⟨by rw [HE.out]; rfl, rfl⟩
  · injection he with h1 h2
    injection h2 with h2 h3
    subst h1 h2 h3
    have HE : Hid (getBytes l = ([], 0, 7)) := by show _ = _; unfold getBytes; rw [HR.out]; rfl
    go_enter Try.func23, Try.ntmps23
    go_wp2_with fail
    refine HC.out.mono ?_
    rintro e w1 ⟨rfl, rfl⟩
    go_wp2_with fail
    go_ret3
    exact ⟨by rw [HE.out]; rfl, rfl⟩

set_option maxRecDepth 100000 in
set_option maxHeartbeats 1000000 in
theorem getIntsElem_any (pb : Addr) (A : Option Addr) (c : Nat) (l : List UInt8) (n at0 : Nat) (w : World) (C : Nat) (hp : w.cell? pb = some (.slice A n c)) (hl : Reads w C 1 A n (bvs l)) (hn : n ≤ 1000000000000) (hc : n ≤ c) (ha : at0 ≤ n) :
    Calls Try.prog 39 #[.int .i64 (at0 : Int), .pointer (some pb)] w (Rets (getInt (l.drop at0)) w) := by
  have hsub := hl.cut (k := at0) (cap := c) ha hc
  have e : (bvs l).drop (at0 * 1) = bvs (l.drop at0) := by unfold bvs; rw [Nat.mul_one, List.map_drop]
  rw [e, Nat.mul_one] at hsub
  clear e
  by_cases hcu : c = at0
  · rw [if_pos hcu, show n - at0 = 0 from by omega] at hsub
    subst hcu
    go_enter Try.func39, Try.ntmps39
    go_wp2_with fail
    refine (getInt_any _ _ _ _ _ _ hsub (by omega)).mono ?_
    rintro e w1 ⟨rfl, rfl⟩
    go_wp2_with fail
    go_ret3
    exact ⟨rfl, rfl⟩
  · rw [if_neg hcu] at hsub
    go_enter Try.func39, Try.ntmps39
    go_wp2_with fail
    refine (getInt_any _ _ _ _ _ _ hsub (by omega)).mono ?_
    rintro e w1 ⟨rfl, rfl⟩
    go_wp2_with fail
    go_ret3
    exact ⟨rfl, rfl⟩
end Go.Proofs.Ytooiedomcdmefaa
