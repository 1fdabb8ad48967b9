/-
  What the reference's Valid, Small, Read and Same return: contracts by walks. No condition but bounded lengths.
-/
import Derived.Test.YtlllllcmbnmmkaaFlC
namespace Go.Proofs.Ytlllllcmbnmmkaa
open Go.RowKit

set_option maxRecDepth 100000 in
set_option maxHeartbeats 1000000 in
theorem rvalid8_any (A : Option Addr) (n c : Nat) (fs : List ByteArray) (w : World) (hok : FlOK w A n c fs) : Calls Try.prog 19 #[flv A n c] w (TellsB (flValid fs) w) := by
  have HLN := Lib.hid hok.len
  have hr := hok.1
  unfold flValid flv
  rw [HLN.out]
  clear hok
  by_cases h4 : n ≤ 128
  · have HD : Hid (decide (n ≤ 128) = true) := Lib.hid (decide_eq_true h4)
    go_enter Try.func19, Try.ntmps19
    go_wp2_with (with_reducible refine wpList_box_row (o := ⟨some 1, _, _, _, _, _⟩) rfl _ _ rfl [.slice A n c] rfl ?_; intro w1 r1 s1 g1; have c1 := r1.cell (j := 0) rfl; have b1 := grown_below g1 (Nat.le_refl _) (by simp))
    clear c1 g1
    go_loopg [3] n (fun g s3 wr => ∃ i : Nat, Hid (i + g = n) ∧ i ≤ n ∧ s3 = .int .i64 (i : Int) ∧ Hid ((fs.take i).any flBad = false) ∧ Row wr w.heap.size 24 [.slice A n c] ∧ Below w.heap.size w wr)
    case atStart => exact ⟨0, by show _ = _; omega, by omega, rfl, Lib.hid rfl, r1, b1⟩
    case round =>
      obtain ⟨i, HI, hi, rfl, HN, hR, hB⟩ := hrel
      have c1 := hR.cell (j := 0) rfl
      by_cases hlt : i < n
      · obtain ⟨ad, s, rfl, hlta, hs, hc⟩ := (hr.below hB).str_at hlt
        have HT : Hid (fs.take (i + 1) = fs.take i ++ [s]) := Lib.hid (by rw [List.take_add_one, hs]; rfl)
        have HM := Lib.hid (List.mem_of_getElem? hs)
        clear hs
        cases hq : flBad s with
        | true =>
          have HQ := Lib.hid hq
          have hz : ((s.size : Int) != 256) = true := by unfold flBad at hq; simp at hq; simp; omega
          clear hq
          go_wp2_with fail
          go_ret
          refine ⟨?_, hB⟩
          rw [HD.out, show fs.any flBad = true from List.any_eq_true.2 ⟨s, HM.out, HQ.out⟩]
          rfl
        | false =>
          have HQ := Lib.hid hq
          have hz : ((s.size : Int) != 256) = false := by unfold flBad at hq; simp at hq; simp; omega
          clear hq
          go_wp2_with fail
          go_roundg (gk - 1)
          case measure => have := HI.out; omega
          case rel => exact ⟨i + 1, by have := HI.out; show _ = _; omega, by omega, by go_num, by show _ = _; rw [HT.out, List.any_append, HN.out, List.any_cons, HQ.out]; rfl, hR, hB⟩
      · obtain rfl : i = n := by omega
        have HA : Hid (fs.any flBad = false) := Lib.hid (by
          have h := HN.out
          rwa [List.take_of_length_le (by rw [HLN.out]; exact Nat.le_refl _)] at h)
        go_wp2_with fail
        go_ret
        exact ⟨by rw [HD.out, HA.out]; rfl, hB⟩
  · have HD : Hid (decide (n ≤ 128) = false) := Lib.hid (decide_eq_false h4)
    generalize fs.any flBad = E at *
    go_enter Try.func19, Try.ntmps19
    go_wp2_with (with_reducible refine wpList_box_row (o := ⟨some 1, _, _, _, _, _⟩) rfl _ _ rfl [.slice A n c] rfl ?_; intro w1 r1 s1 g1; have c1 := r1.cell (j := 0) rfl; have b1 := grown_below g1 (Nat.le_refl _) (by simp))
    go_ret
    exact ⟨by first | rfl | (rw [HD.out]; rfl), b1⟩

set_option maxRecDepth 100000 in
set_option maxHeartbeats 1000000 in
theorem rsmall_any (A : Option Addr) (n c : Nat) (fs : List ByteArray) (w : World) (hok : FlOK w A n c fs) : Calls Try.prog 10 #[flv A n c] w (TellsB (flSmall fs) w) := by
  have HLN := Lib.hid hok.len
  have hr := hok.1
  unfold flSmall flv
  rw [HLN.out]
  clear hok
  by_cases h4 : n ≤ 150
  · have HD : Hid (decide (n ≤ 150) = true) := Lib.hid (decide_eq_true h4)
    go_enter Try.func10, Try.ntmps10
    go_wp2_with (with_reducible refine wpList_box_row (o := ⟨some 1, _, _, _, _, _⟩) rfl _ _ rfl [.slice A n c] rfl ?_; intro w1 r1 s1 g1; have c1 := r1.cell (j := 0) rfl; have b1 := grown_below g1 (Nat.le_refl _) (by simp))
    clear c1 g1
    go_loopg [3] n (fun g s3 wr => ∃ i : Nat, Hid (i + g = n) ∧ i ≤ n ∧ s3 = .int .i64 (i : Int) ∧ Hid ((fs.take i).any flBig = false) ∧ Row wr w.heap.size 24 [.slice A n c] ∧ Below w.heap.size w wr)
    case atStart => exact ⟨0, by show _ = _; omega, by omega, rfl, Lib.hid rfl, r1, b1⟩
    case round =>
      obtain ⟨i, HI, hi, rfl, HN, hR, hB⟩ := hrel
      have c1 := hR.cell (j := 0) rfl
      by_cases hlt : i < n
      · obtain ⟨ad, s, rfl, hlta, hs, hc⟩ := (hr.below hB).str_at hlt
        have HT : Hid (fs.take (i + 1) = fs.take i ++ [s]) := Lib.hid (by rw [List.take_add_one, hs]; rfl)
        have HM := Lib.hid (List.mem_of_getElem? hs)
        clear hs
        cases hq : flBig s with
        | true =>
          have HQ := Lib.hid hq
          have hz : 300 < s.size := by unfold flBig at hq; simpa using hq
          clear hq
          go_wp2_with fail
          go_ret
          refine ⟨?_, hB⟩
          rw [HD.out, show fs.any flBig = true from List.any_eq_true.2 ⟨s, HM.out, HQ.out⟩]
          rfl
        | false =>
          have HQ := Lib.hid hq
          have hz : ¬ 300 < s.size := by unfold flBig at hq; simpa using hq
          clear hq
          go_wp2_with fail
          go_roundg (gk - 1)
          case measure => have := HI.out; omega
          case rel => exact ⟨i + 1, by have := HI.out; show _ = _; omega, by omega, by go_num, by show _ = _; rw [HT.out, List.any_append, HN.out, List.any_cons, HQ.out]; rfl, hR, hB⟩
      · obtain rfl : i = n := by omega
        have HA : Hid (fs.any flBig = false) := Lib.hid (by
          have h := HN.out
          rwa [List.take_of_length_le (by rw [HLN.out]; exact Nat.le_refl _)] at h)
        go_wp2_with fail
        go_ret
        exact ⟨by rw [HD.out, HA.out]; rfl, hB⟩
  · have HD : Hid (decide (n ≤ 150) = false) := Lib.hid (decide_eq_false h4)
    generalize fs.any flBig = E at *
    go_enter Try.func10, Try.ntmps10
    go_wp2_with (with_reducible refine wpList_box_row (o := ⟨some 1, _, _, _, _, _⟩) rfl _ _ rfl [.slice A n c] rfl ?_; intro w1 r1 s1 g1; have c1 := r1.cell (j := 0) rfl; have b1 := grown_below g1 (Nat.le_refl _) (by simp))
    go_ret
    exact ⟨by first | rfl | (rw [HD.out]; rfl), b1⟩

set_option maxRecDepth 100000 in
set_option maxHeartbeats 1000000 in
theorem rread8_any (A : Option Addr) (n c : Nat) (fs : List ByteArray) (k : Int) (w : World) (hok : FlOK w A n c fs) :
    Calls Try.prog 14 #[flv A n c, .int .i64 k] w (TellsSI (flRead fs k) (flErr fs k) w) := by
  have hlen := hok.len
  have hr := hok.1
  unfold flv
  clear hok
  by_cases hb : k < 0
  · clear hr
    have HE := Lib.hid (flRead_no (fs := fs) (k := k) (flIn_neg hb))
    have HO := Lib.hid (flErr_no (fs := fs) (k := k) (flIn_neg hb))
    generalize flRead fs k = E at *
    generalize flErr fs k = O at *
    clear hlen
    go_enter Try.func14, Try.ntmps14
    go_wp2_with (with_reducible refine wpList_box_row (o := ⟨some 2, _, _, _, _, _⟩) rfl _ _ rfl [.slice A n c] rfl ?_; intro w1 hrow1 hs1 hg1; have hf1 := hrow1.cell (j := 0) rfl; have hb1 := grown_below hg1 (Nat.le_refl _) (by simp))
    go_ret2
    exact ⟨by rw [HE.out, HO.out]; rfl, hb1⟩
  · by_cases hkn : (n : Int) ≤ k
    · clear hr
      have HE := Lib.hid (flRead_no (fs := fs) (k := k) (flIn_far (by omega)))
      have HO := Lib.hid (flErr_no (fs := fs) (k := k) (flIn_far (by omega)))
      generalize flRead fs k = E at *
      generalize flErr fs k = O at *
      clear hlen
      go_enter Try.func14, Try.ntmps14
      go_wp2_with (with_reducible refine wpList_box_row (o := ⟨some 2, _, _, _, _, _⟩) rfl _ _ rfl [.slice A n c] rfl ?_; intro w1 hrow1 hs1 hg1; have hf1 := hrow1.cell (j := 0) rfl; have hb1 := grown_below hg1 (Nat.le_refl _) (by simp))
      go_ret2
      exact ⟨by rw [HE.out, HO.out]; rfl, hb1⟩
    · obtain ⟨i, rfl⟩ : ∃ i : Nat, k = (i : Int) := ⟨k.toNat, by omega⟩
      obtain ⟨ad, s, rfl, hlt, hs, hc⟩ := hr.str_at (i := i) (by omega)
      have HE := Lib.hid (flRead_nat hs)
      have HO := Lib.hid (flErr_nat (fs := fs) (j := i) (by omega))
      generalize flRead fs i = E at *
      generalize flErr fs i = O at *
      clear hlen hs
      go_enter Try.func14, Try.ntmps14
      go_wp2_with (with_reducible refine wpList_box_row (o := ⟨some 2, _, _, _, _, _⟩) rfl _ _ rfl [.slice (some ad) n c] rfl ?_; intro w1 hrow1 hs1 hg1; have hf1 := hrow1.cell (j := 0) rfl; have hb1 := grown_below hg1 (Nat.le_refl _) (by simp); have hc2 := (hb1.cell (by rw [block_of_add]; exact hlt)).trans hc; clear hc)
      go_ret2
      exact ⟨by rw [HE.out, HO.out]; rfl, hb1⟩

set_option maxRecDepth 100000 in
set_option maxHeartbeats 4000000 in
theorem rsame8_any (A B : Option Addr) (n c m d : Nat) (fs gs : List ByteArray) (w : World) (hok : FlOK w A n c fs) (hog : FlOK w B m d gs) :
    Calls Try.prog 17 #[flv A n c, flv B m d] w (TellsB (decide (fs = gs)) w) := by
  have HLP := Lib.hid hok.len
  have HLQ := Lib.hid hog.len
  have hr := hok.1
  have hq := hog.1
  have hn := hok.2.2.1
  unfold maxLen at hn
  unfold flv
  clear hok hog
  by_cases hnm : n = m
  · subst hnm
    go_enter Try.func17, Try.ntmps17
    go_wp2_with (first
      | (with_reducible refine wpList_box_row (o := ⟨some 2, _, _, _, _, _⟩) rfl _ _ rfl [.slice A n c] rfl ?_; intro w1 r1 s1 g1)
      | (with_reducible refine wpList_box_row (o := ⟨some 3, _, _, _, _, _⟩) rfl _ _ rfl [.slice B n d] rfl ?_; intro w2 r2 s2 g2; have q1 := r1.kept g2 (by simp); have c1 := q1.cell (j := 0) rfl; have c2 := r2.cell (j := 0) rfl; have b2 := below_kept (grown_below g1 (Nat.le_refl _) (by simp)) g2 (Nat.le_of_lt s1) (by simp)))
    clear r1 g1 g2 c1 c2
    go_loopg [5] n (fun g s5 wr => ∃ k : Nat, Hid (k + g = n) ∧ k ≤ n ∧ s5 = .int .i64 (k : Int) ∧ Hid (fs.take k = gs.take k) ∧ Row wr w.heap.size 24 [.slice A n c] ∧ Row wr w1.heap.size 24 [.slice B n d] ∧ Below w.heap.size w wr)
    case atStart => exact ⟨0, by show _ = _; omega, by omega, rfl, Lib.hid rfl, q1, r2, b2⟩
    case round =>
      obtain ⟨k, HK, hk, rfl, HT, e1, e2, hB⟩ := hrel
      have c1 := e1.cell (j := 0) rfl
      have c2 := e2.cell (j := 0) rfl
      by_cases hlt : k < n
      · obtain ⟨ad, s, rfl, hlta, hs, hc0⟩ := hr.str_at hlt
        obtain ⟨bd, t, rfl, hltb, ht, hd0⟩ := hq.str_at hlt
        have HS := Lib.hid hs
        have HTT := Lib.hid ht
        have hc := (hB.cell (by rw [block_of_add]; exact hlta)).trans hc0
        have hd := (hB.cell (by rw [block_of_add]; exact hltb)).trans hd0
        clear hs ht hc0 hd0
        by_cases hst : s = t
        · subst hst
          go_wp2_with fail
          go_quiet (fail)
          have e1n := e1.drewN nq
          have e2n := e2.drewN nq
          have hBn := below_drewN hB nq
          go_wp2_with fail
          go_roundg (gk - 1)
          case measure => have := HK.out; omega
          case rel => exact ⟨k + 1, by have := HK.out; show _ = _; omega, by omega, by go_num, Lib.hid (take_snoc_same HS.out HTT.out HT.out rfl), e1n, e2n, hBn⟩
        · have HNE := Lib.hid (ne_at HS.out HTT.out hst)
          have hz := str_ne hst
          go_wp2_with fail
          go_quiet (fail)
          go_wp2_with fail
          go_ret
          exact ⟨by rw [HNE.out]; rfl, below_drewN hB nq⟩
      · obtain rfl : k = n := by omega
        have HEQ := Lib.hid (eq_of_take HLP.out HLQ.out HT.out)
        go_wp2_with fail
        go_ret
        exact ⟨by rw [decide_eq_true HEQ.out]; rfl, hB⟩
  · have HNE : Hid (decide (fs = gs) = false) := Lib.hid (decide_eq_false fun e => hnm (by rw [← HLP.out, ← HLQ.out, e]))
    go_enter Try.func17, Try.ntmps17
    go_wp2_with (first
      | (with_reducible refine wpList_box_row (o := ⟨some 2, _, _, _, _, _⟩) rfl _ _ rfl [.slice A n c] rfl ?_; intro w1 r1 s1 g1)
      | (with_reducible refine wpList_box_row (o := ⟨some 3, _, _, _, _, _⟩) rfl _ _ rfl [.slice B m d] rfl ?_; intro w2 r2 s2 g2; have q1 := r1.kept g2 (by simp); have c1 := q1.cell (j := 0) rfl; have c2 := r2.cell (j := 0) rfl; have b2 := below_kept (grown_below g1 (Nat.le_refl _) (by simp)) g2 (Nat.le_of_lt s1) (by simp)))
    go_ret
    exact ⟨by rw [HNE.out]; rfl, b2⟩
end Go.Proofs.Ytlllllcmbnmmkaa
