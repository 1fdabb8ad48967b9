/-
  What the reference's count, GetBytes, GetInts and GetDigests return: contracts by walks.
-/
import Derived.Test.YtooiedomcdmefaaRefGet
namespace Go.Proofs.Ytooiedomcdmefaa
open Go.RowKit

/-- Three integers come back; nothing that was there has changed. -/
def RetsB (r : Int × Nat × Int) (w : World) (e : Ending) (w' : World) : Prop := e = .returned (.tuple #[.int .i64 r.1, .int .i64 (r.2.1 : Int), .int .i64 r.2.2]) ∧ Below w.heap.size w w'

set_option maxRecDepth 100000 in
set_option maxHeartbeats 1000000 in
theorem refCount_any (A : Option Addr) (c : Nat) (l : List UInt8) (n z : Nat) (w : World) (hl : Reads w w.heap.size 1 A n (bvs l)) (hn : n ≤ 1000000000) (hc : n ≤ c) (hz : 0 < z) (hz2 : z ≤ 1000) :
    Calls Try.prog 37 #[.slice A n c, .int .i64 (z : Int)] w (RetsB (getLen l z) w) := by
  have HL := Lib.hid hl.bytes_len
  have hok := getInt_ok l
  obtain ⟨m, u, e, hr⟩ : ∃ m u e, getInt l = (m, u, e) := ⟨_, _, _, rfl⟩
  rw [hr] at hok
  have HR := Lib.hid hr
  have hcon := refGetInt_any A c l n w hl hn hc
  rw [hr] at hcon
  have HC := Lib.hid hcon
  clear hr hcon
  rcases hok with ⟨he, hm, hu0, hul, hu10⟩ | he | he
  · simp only at he hm hu0 hul hu10
    subst he
    rw [HL.out] at hul
    obtain ⟨hm1, hm2⟩ := hm
    by_cases h1 : m < 0
    · have HE : Hid (getLen l z = (0, 0, 7)) := by show _ = _; unfold getLen; rw [HR.out]; simp [h1]
      go_enter Try.func37, Try.ntmps37
      go_wp2_with fail
      refine HC.out.mono ?_
      rintro e w1 ⟨rfl, hb1⟩
      go_wp2_with fail
      go_ret3
      exact ⟨by rw [HE.out]; rfl, hb1⟩
    · obtain ⟨k, rfl⟩ := Int.eq_ofNat_of_zero_le (show 0 ≤ m by omega)
      by_cases hbig : n < k
      · have HE : Hid (getLen l z = (0, 0, 6)) := by
          show _ = _
          unfold getLen
          rw [HR.out, HL.out]
          rw [if_neg (by simp), if_neg h1, if_pos]
          have := Nat.div_le_self (n - u) z
          show (((n - u) / z : Nat) : Int) < (k : Int)
          omega
        go_enter Try.func37, Try.ntmps37
        go_wp2_with fail
        refine HC.out.mono ?_
        rintro e w1 ⟨rfl, hb1⟩
        go_wp2_with fail
        go_ret3
        exact ⟨by rw [HE.out]; rfl, hb1⟩
      · obtain ⟨q, hq⟩ : ∃ q : Nat, q = k * z := ⟨_, rfl⟩
        have hq1 : (k : Int) * (z : Int) = (q : Int) := by rw [hq]; push_cast; rfl
        have hqb : q ≤ 1000000000 * 1000 := by rw [hq]; exact Nat.mul_le_mul (by omega) hz2
        have hiff : (((n - u) / z : Nat) : Int) < (k : Int) ↔ n - u < q := by
          rw [hq]
          have := Nat.div_lt_iff_lt_mul hz (x := n - u) (y := k)
          omega
        have HI := Lib.hid hiff
        clear hiff hq
        by_cases h2 : n - u < q
        · have HE : Hid (getLen l z = (0, 0, 6)) := by
            show _ = _
            unfold getLen
            rw [HR.out, HL.out]
            rw [if_neg (by simp), if_neg h1, if_pos (HI.out.2 h2)]
          go_enter Try.func37, Try.ntmps37
          go_wp2_with fail
          refine HC.out.mono ?_
          rintro e w1 ⟨rfl, hb1⟩
          go_wp2_with fail
          go_ret3
          exact ⟨by rw [HE.out]; rfl, hb1⟩
        · have HE : Hid (getLen l z = ((k : Int), u, 0)) := by
            show _ = _
            unfold getLen
            rw [HR.out, HL.out]
            rw [if_neg (by simp), if_neg h1, if_neg (fun h => h2 (HI.out.1 h))]
          go_enter Try.func37, Try.ntmps37
          go_wp2_with fail
          refine HC.out.mono ?_
          rintro e w1 ⟨rfl, hb1⟩
          go_wp2_with fail
          go_ret3
          exact ⟨by rw [HE.out]; rfl, hb1⟩
  all_goals
    injection he with h1 h2
    injection h2 with h2 h3
    subst h1 h2 h3
  · have HE : Hid (getLen l z = (0, 0, 6)) := by show _ = _; unfold getLen; rw [HR.out]; rfl
    go_enter Try.func37, Try.ntmps37
    go_wp2_with fail
    refine HC.out.mono ?_
    rintro e w1 ⟨rfl, hb1⟩
    go_wp2_with fail
    go_ret3
    exact ⟨by rw [HE.out]; rfl, hb1⟩
  · have HE : Hid (getLen l z = (0, 0, 7)) := by show _ = _; unfold getLen; rw [HR.out]; rfl
    go_enter Try.func37, Try.ntmps37
    go_wp2_with fail
    refine HC.out.mono ?_
    rintro e w1 ⟨rfl, hb1⟩
    go_wp2_with fail
    go_ret3
    exact ⟨by rw [HE.out]; rfl, hb1⟩

/-- A string and two integers come back; nothing that was there has changed. -/
def RetsSB (r : List UInt8 × Nat × Int) (w : World) (e : Ending) (w' : World) : Prop := e = .returned (.tuple #[.string ⟨r.1.toArray⟩, .int .i64 (r.2.1 : Int), .int .i64 r.2.2]) ∧ Below w.heap.size w w'

set_option maxRecDepth 100000 in
set_option maxHeartbeats 1000000 in
theorem refGetBytes_any (A : Option Addr) (c : Nat) (l : List UInt8) (n : Nat) (w : World) (hl : Reads w w.heap.size 1 A n (bvs l)) (hn : n ≤ 1000000000) (hc : n ≤ c) :
    Calls Try.prog 24 #[.slice A n c] w (RetsSB (getBytes l) w) := by
  have HL := Lib.hid hl.bytes_len
  have hok := getLen_ok l 1 (by omega)
  obtain ⟨m, u, e, hr⟩ : ∃ m u e, getLen l 1 = (m, u, e) := ⟨_, _, _, rfl⟩
  rw [hr] at hok
  have HR := Lib.hid hr
  have hcon := refCount_any A c l n 1 w hl hn hc (by omega) (by omega)
  rw [hr] at hcon
  unfold RetsB at hcon
  have HC := Lib.hid hcon
  clear hr hcon
  rcases hok with ⟨he, hm, hu0, hu10, hum⟩ | he | he
  · simp only at he hm hu0 hu10 hum
    subst he
    rw [HL.out] at hum
    obtain ⟨k, rfl⟩ := Int.eq_ofNat_of_zero_le hm
    rw [Int.toNat_natCast] at hum
    have hsub := hl.sub (u := u) (m := k) (c := c) (by omega) hc
    have HE : Hid (getBytes l = ((l.drop u).take k, u + k, 0)) := by show _ = _; unfold getBytes; rw [HR.out]; rfl
    rw [Nat.mul_one] at hsub
    by_cases hcu : c = u
    · rw [if_pos hcu] at hsub
      subst hcu
      have hsub2 : Reads w w.heap.size 1 A (c + k - c) (bvs ((l.drop c).take k)) := by rw [Nat.add_sub_cancel_left]; exact hsub
      go_enter Try.func24, Try.ntmps24
      go_wp2_with fail
      refine HC.out.mono ?_
      rintro e w1 ⟨rfl, hb1⟩
      have hsub3 := hsub2.below hb1
      go_wp2_with (refine wpList_valueW (o := ⟨some 23, _, _, _, _, _⟩) rfl _ (by exact exec_string_of _ _ _ _ _ rfl Try.underlying26 Try.underlying5 Try.underlying9 rfl hsub3) ?_)
      go_ret3
      exact ⟨by rw [HE.out]; rfl, hb1⟩
    · rw [if_neg hcu] at hsub
      have hsub2 : Reads w w.heap.size 1 (A.map (·.add u)) (u + k - u) (bvs ((l.drop u).take k)) := by rw [Nat.add_sub_cancel_left]; exact hsub
      go_enter Try.func24, Try.ntmps24
      go_wp2_with fail
      refine HC.out.mono ?_
      rintro e w1 ⟨rfl, hb1⟩
      have hsub3 := hsub2.below hb1
      go_wp2_with (refine wpList_valueW (o := ⟨some 23, _, _, _, _, _⟩) rfl _ (by exact exec_string_of _ _ _ _ _ rfl Try.underlying26 Try.underlying5 Try.underlying9 rfl hsub3) ?_)
      go_ret3
      exact ⟨by rw [HE.out]; rfl, hb1⟩
  · injection he with h1 h2
    injection h2 with h2 h3
    subst h1 h2 h3
    have HE : Hid (getBytes l = ([], 0, 6)) := by show _ = _; unfold getBytes; rw [HR.out]; rfl
    go_enter Try.func24, Try.ntmps24
    go_wp2_with fail
    refine HC.out.mono ?_
    rintro e w1 ⟨rfl, hb1⟩
    go_wp2_with fail
    go_ret3
    exact ⟨by rw [HE.out]; rfl, hb1⟩
  · injection he with h1 h2
    injection h2 with h2 h3
    subst h1 h2 h3
    have HE : Hid (getBytes l = ([], 0, 7)) := by show _ = _; unfold getBytes; rw [HR.out]; rfl
    go_enter Try.func24, Try.ntmps24
    go_wp2_with fail
    refine HC.out.mono ?_
    rintro e w1 ⟨rfl, hb1⟩
    go_wp2_with fail
    go_ret3
    exact ⟨by rw [HE.out]; rfl, hb1⟩
end Go.Proofs.Ytooiedomcdmefaa
