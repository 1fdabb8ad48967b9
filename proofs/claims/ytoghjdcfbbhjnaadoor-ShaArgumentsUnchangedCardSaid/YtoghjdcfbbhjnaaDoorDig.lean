/-
  What Short, sha.appendParts and sha.Digest return: contracts by walks. Condition: bounded lengths.
-/
import Derived.Test.YtoghjdcfbbhjnaaDoorMac
import Derived.Test.YtoghjdcfbbhjnaaDoorConv
namespace Go.Proofs.YtoghjdcfbbhjnaaDoor
open Go.RowKit

def shortB (ps : List Part) : Bool := decide (ps.length ≤ 20) && ps.all fun p => decide (p.n ≤ 300)
theorem shortB_of {ps : List Part} (h : shortB ps = true) : ps.length ≤ 20 ∧ ∀ p ∈ ps, p.n ≤ 300 := by
  unfold shortB at h
  rw [Bool.and_eq_true, decide_eq_true_eq, List.all_eq_true] at h
  exact ⟨h.1, fun p hp => of_decide_eq_true (h.2 p hp)⟩
theorem shortB_long {ps : List Part} (h : 20 < ps.length) : shortB ps = false := by
  unfold shortB
  rw [decide_eq_false (by omega), Bool.false_and]
theorem shortB_at {ps : List Part} {k : Nat} {p : Part} (hk : ps[k]? = some p) (h : 300 < p.n) : shortB ps = false := by
  cases hs : shortB ps with
  | false => rfl
  | true => have := (shortB_of hs).2 p (List.mem_of_getElem? hk); omega
theorem shortB_all {ps : List Part} (h : ps.length ≤ 20) (ha : ∀ (j : Nat) (p : Part), ps[j]? = some p → p.n ≤ 300) : shortB ps = true := by
  unfold shortB
  rw [Bool.and_eq_true, decide_eq_true_eq, List.all_eq_true]
  refine ⟨h, fun p hp => decide_eq_true ?_⟩
  obtain ⟨j, hj⟩ := List.getElem?_of_mem hp
  exact ha j p hj

set_option maxRecDepth 100000 in
set_option maxHeartbeats 1000000 in
theorem short_any (A : Option Addr) (c : Nat) (ps : List Part) (n : Nat) (w : World) (hr : ReadsP w w.heap.size A n ps) (hn : n ≤ 140737488351232) (hp : ∀ p ∈ ps, p.n ≤ maxLen) :
    Calls Tryd.prog 16 #[.slice A n c] w fun e w' => e = .returned (.bool (shortB ps)) ∧ w = w' := by
  have HLN := Lib.hid hr.len
  have HPN := Lib.hid hp
  clear hp
  by_cases hlong : 20 < n
  · have HF := Lib.hid (shortB_long (ps := ps) (by rw [HLN.out]; exact hlong))
    go_enter Tryd.func16, Tryd.ntmps16
    go_wp2_with fail
    go_ret
    exact ⟨by rw [HF.out]; rfl, rfl⟩
  · go_enter Tryd.func16, Tryd.ntmps16
    go_wp2_with fail
    go_loopg [3] n (fun g s3 wr => ∃ k : Nat, Hid (k + g = n) ∧ k ≤ n ∧ s3 = .int .i64 (k : Int) ∧ (∀ (j : Nat) (p : Part), j < k → ps[j]? = some p → p.n ≤ 300) ∧ w = wr)
    case atStart => exact ⟨0, by show _ = _; omega, by omega, rfl, fun j p h => absurd h (by omega), rfl⟩
    case round =>
      obtain ⟨k, HK, hk, rfl, hall, rfl⟩ := hrel
      by_cases hlt : k < n
      · obtain ⟨ad, p, rfl, _, hpk, hc, hrp, _⟩ := hr.at_ hlt
        have hpn := HPN.out p (List.mem_of_getElem? hpk)
        by_cases hbig : 300 < p.n
        · have HF := Lib.hid (shortB_at hpk hbig)
          clear hpk
          go_wp2_with fail
          go_ret
          exact ⟨by rw [HF.out]; rfl, rfl⟩
        · have HPK := Lib.hid hpk
          clear hpk
          go_wp2_with fail
          go_roundg (gk - 1)
          case measure => have := HK.out; omega
          case rel =>
            refine ⟨k + 1, by have := HK.out; show _ = _; omega, by omega, by go_num, fun j p' hj hjp => ?_, rfl⟩
            by_cases hjk : j < k
            · exact hall j p' hjk hjp
            · obtain rfl : j = k := by omega
              rw [HPK.out] at hjp
              cases hjp
              omega
      · have HF : Hid (shortB ps = true) := Lib.hid (shortB_all (ps := ps) (by rw [HLN.out]; omega) fun j p hj => hall j p (by have := (List.getElem?_eq_some_iff.1 hj).1; rw [HLN.out] at this; omega) hj)
        go_wp2_with fail
        go_ret
        exact ⟨by rw [HF.out]; rfl, rfl⟩

/-- The parts' encodings. -/
def epK (ps : List Part) (k : Nat) : List UInt8 := encParts ((ps.take k).map Part.l)
def epAll (ps : List Part) : List UInt8 := encParts (ps.map Part.l)
theorem epK_zero (ps : List Part) : epK ps 0 = [] := rfl
theorem epK_succ (ps : List Part) (k : Nat) (p : Part) (h : ps[k]? = some p) : epK ps (k + 1) = epK ps k ++ encBytes p.l := by
  unfold epK
  rw [List.take_add_one, h]
  unfold encParts
  simp
  rfl
theorem epK_all (ps : List Part) (n : Nat) (h : ps.length = n) : epK ps n = epAll ps := by
  unfold epK epAll
  rw [List.take_of_length_le (by omega)]
theorem encBytes_le (l : List UInt8) (m : Nat) (h : l.length ≤ m) (hm : m ≤ 100000000) : (encBytes l).length ≤ m + 10 := by
  have h10 : (encInt (l.length : Int)).length ≤ 10 := leb_le10 _ (zz_lt _ (by omega) (by omega))
  unfold encBytes
  rw [List.length_append]
  omega
theorem epK_len (ps : List Part) (hp : ∀ p ∈ ps, p.l.length ≤ 300) : ∀ k, (epK ps k).length ≤ 310 * k
  | 0 => by rw [epK_zero]; simp
  | k + 1 => by
    have ih := epK_len ps hp k
    cases h : ps[k]? with
    | none =>
      have : epK ps (k + 1) = epK ps k := by unfold epK; rw [List.take_add_one, h]; simp
      rw [this]; omega
    | some p =>
      rw [epK_succ ps k p h, List.length_append]
      have := encBytes_le p.l 300 (hp p (List.mem_of_getElem? h)) (by omega)
      omega

set_option maxRecDepth 100000 in
set_option maxHeartbeats 2000000 in
theorem appendParts_any (base : Nat) (v : Value) (l : List UInt8) (A : Option Addr) (c : Nat) (ps : List Part) (n : Nat) (w : World) (hown : w.ownsRow base 5 1 v l.length (bvs l)) (hbase : base ≤ w.heap.size) (hl : l.length ≤ 1000)
    (hr : ReadsP w base A n ps) (hn : n ≤ 20) (hp : ∀ p ∈ ps, p.n ≤ 300) :
    Calls Tryd.prog 36 #[v, .slice A n c] w fun e w' => ∃ v', e = .returned v' ∧ w'.ownsRow base 5 1 v' (l ++ epAll ps).length (bvs (l ++ epAll ps)) ∧ Below base w w' := by
  obtain ⟨i0, hi0, hz0, hz1, hz2⟩ := info_parts info_u8
  have HLN := Lib.hid hr.len
  have HPL : Hid (∀ p ∈ ps, p.l.length ≤ 300) := by
    show ∀ p ∈ ps, p.l.length ≤ 300
    intro p hpm
    have h1 := (hr.2 p hpm).1.bytes_len
    have h2 := hp p hpm
    omega
  have HLE := Lib.hid (epK_len ps HPL.out)
  have HPN := Lib.hid hp
  clear hp
  go_enter Tryd.func36, Tryd.ntmps36
  go_wp2_with fail
  go_loopg [0, 9] n (fun g s0 s9 wr => ∃ k : Nat, Hid (k + g = n) ∧ k ≤ n ∧ s9 = .int .i64 (k : Int) ∧ wr.ownsRow base 5 1 s0 (l ++ epK ps k).length (bvs (l ++ epK ps k)) ∧ Below base w wr)
  case atStart => exact ⟨0, by show _ = _; omega, by omega, rfl, by rw [epK_zero, List.append_nil]; exact hown, Below.refl _ _⟩
  case round =>
    obtain ⟨k, HK, hk, rfl, hownk, hbel⟩ := hrel
    have hlen : (l ++ epK ps k).length ≤ 10000 := by have := HLE.out k; rw [List.length_append]; omega
    have hsz := hbel.size
    by_cases hlt : k < n
    · obtain ⟨ad, p, rfl, _, hpk, hc, hrp, _⟩ := (hr.below hbel).at_ hlt
      have hpn := HPN.out p (List.mem_of_getElem? hpk)
      have HS : Hid (l ++ epK ps (k + 1) = (l ++ epK ps k) ++ encBytes p.l) := by show _ = _; rw [epK_succ ps k p hpk, List.append_assoc]
      have HEL := Lib.hid (encBytes_le p.l 300 (HPL.out p (List.mem_of_getElem? hpk)) (by omega))
      have hpl := hrp.bytes_len
      have HPL2 := Lib.hid hpl
      clear hpk hpl
      generalize l ++ epK ps k = L at *
      go_wp2_with (refine wpList_valueW (o := ⟨some 15, _, _, _, _, _⟩) rfl _ (by exact exec_string_of _ _ _ _ _ rfl Tryd.underlying22 Tryd.underlying5 Tryd.underlying9 rfl hrp) ?_)
      refine (bytes_any ⟨p.l.toArray⟩ wr (by show p.l.toArray.size ≤ _; rw [List.size_toArray, HPL2.out]; omega)).mono ?_
      rintro e w1 ⟨v1, rfl, hown1, hb1⟩
      rw [show (ByteArray.mk p.l.toArray).data.toList = p.l from rfl] at hown1
      obtain ⟨A1, c1, rfl, hc1, _, hr1⟩ := own_form hown1
      have hownk1 := own_below hownk hb1
      have hb1' := hbel.trans (hb1.mono (Nat.le_trans hbase hsz))
      have hel := HEL.out
      generalize encBytes p.l = E at *
      clear hown1 hownk
      go_wp2_with (at_builtin; refine wpList_append_src _ rfl (.tmp 13) (.tmp 16) _ _ rfl base 5 i0 _ 1 1 Tryd.underlying22 hi0 hz0 hz1 hz2 rfl _ _ _ rfl hownk1 E.length _ (Src.ofReads _ Tryd.underlying22 hr1 (bvs_one _)) (by unfold maxLen; omega) (by omega) (Nat.le_trans hbase hb1'.size) ?_; intro v4 w4 hown4 hb4)
      go_roundg (gk - 1)
      case measure => have := HK.out; omega
      case rel =>
        refine ⟨k + 1, by have := HK.out; show _ = _; omega, by omega, by go_num, ?_, hb1'.trans hb4⟩
        rw [HS.out, bvs_append, List.length_append]
        exact hown4
    · have HKN : Hid (k = n) := by show _ = _; omega
      rw [HKN.out, epK_all ps n HLN.out] at hownk
      go_wp2_with fail
      go_ret
      exact ⟨_, rfl, hownk, hbel⟩
end Go.Proofs.YtoghjdcfbbhjnaaDoor
