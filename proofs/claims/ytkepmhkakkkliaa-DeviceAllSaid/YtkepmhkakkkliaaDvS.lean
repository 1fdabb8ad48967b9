/-
  What device.Same and the reference's Same, Results and Small return: contracts by walks. Condition: bounded lengths.
-/
import Derived.Test.YtkepmhkakkkliaaDvE
import Derived.Test.YtkepmhkakkkliaaFlR
import Derived.Test.YtkepmhkakkkliaaFuRS
import Derived.Test.YtkepmhkakkkliaaFuRV
namespace Go.Proofs.Ytkepmhkakkkliaa
open Go.RowKit

theorem exec_eql16b {ρ : Operand → Value} {o : Oper} (w : World) (x y : Operand) (ho : o.op = .binOp .eql 29 x y 29) (xs ys : List UInt8) (hx : xs.length = 16) (hy : ys.length = 16) (v : Bool) (hv : decide (xs = ys) = v) (h1 : ρ x = .agg (bvs xs).toArray) (h2 : ρ y = .agg (bvs ys).toArray) :
    (execOp ρ o).run Try.prog w = .ok (.value (.bool v)) w := by rw [exec_eql16 w x y ho xs ys hx hy h1 h2, bytes_beq, hv]
theorem exec_neq16b {ρ : Operand → Value} {o : Oper} (w : World) (x y : Operand) (ho : o.op = .binOp .neq 29 x y 29) (xs ys : List UInt8) (hx : xs.length = 16) (hy : ys.length = 16) (v : Bool) (hv : (!decide (xs = ys)) = v) (h1 : ρ x = .agg (bvs xs).toArray) (h2 : ρ y = .agg (bvs ys).toArray) :
    (execOp ρ o).run Try.prog w = .ok (.value (.bool v)) w := by rw [exec_neq16 w x y ho xs ys hx hy h1 h2, bytes_beq, hv]
theorem dvSame_def (s t : DvS) : dvSame s t = (decide (s.rt = t.rt) && (decide (s.bs = t.bs) && decide (s.fs = t.fs))) := rfl
set_option maxRecDepth 100000 in
set_option maxHeartbeats 4000000 in
theorem dsame_any9 (h k : Hw) (w : World) (hok : HwOK w h) (kok : HwOK w k) (hs : dvSm h.s) : Calls Try.prog 15 #[h.v, k.v] w (TellsB (dvSame h.s k.s) w) := by
  have H16 := Lib.hid hok.h16
  have K16 := Lib.hid kok.h16
  have hn := hok.sm1 hs
  have HF := fun W h1 h2 => Lib.hid (equalFunc_any9 h.A k.A h.n h.c k.n k.c h.ps k.ps W h1 h2 (by omega))
  have HL := fun W h1 h2 => Lib.hid (lsame_any h.B k.B h.m h.d k.m k.d h.fs k.fs W h1 h2)
  have HE := Lib.hid (dvSame_def h.s k.s)
  generalize dvSame h.s k.s = E at *
  clear hs hn
  show Calls _ _ _ _ _
  have HE : Hid (E = (decide (h.rt = k.rt) && (decide (bk h.ps = bk k.ps) && decide (h.fs = k.fs)))) := HE
  cases hq : decide (h.rt = k.rt) with
  | false =>
    have HQ := Lib.hid hq
    rw [hq, Bool.false_and] at HE
    clear HF HL hq
    go_enter Try.func15, Try.ntmps15
    go_wp2_with (first
      | ((with_reducible refine wpList_at ⟨some 2, _, _, _, _, _⟩ ?_); refine wpList_box_row rfl _ _ rfl (h.cs) rfl ?_; intro w1 rh_1 s1 g1; have k1 : Below w.heap.size w w1 := grown_below g1 (Nat.le_refl _) (by simp); have B1 : Below w.heap.size w w1 := k1; have okh_1 := hok.on k1; have okk_1 := kok.on k1; have crh0 := rh_1.cell (j := 0) rfl; have crh1 := rh_1.cell (j := 1) rfl)
      | ((with_reducible refine wpList_at ⟨some 3, _, _, _, _, _⟩ ?_); refine wpList_box_row rfl _ _ rfl (k.cs) rfl ?_; intro w2 rk_2 s2 g2; have k2 : Below w1.heap.size w1 w2 := grown_below g2 (Nat.le_refl _) (by simp); have B2 := B1.trans (k2.mono B1.size); have okh_2 := okh_1.on k2; have okk_2 := okk_1.on k2; have rh_2 := rh_1.on k2; clear okh_1 okk_1 rh_1; have crh0 := rh_2.cell (j := 0) rfl; have crh1 := rh_2.cell (j := 1) rfl; have crk0 := rk_2.cell (j := 0) rfl; have crk1 := rk_2.cell (j := 1) rfl)
      | ((with_reducible refine wpList_at ⟨some 6, _, _, _, _, _⟩ ?_); refine wpList_valueG rfl _ (by exact exec_loadHR _ _ rfl (w.heap.size) rfl h H16.out rh_2) ?_)
      | ((with_reducible refine wpList_at ⟨some 8, _, _, _, _, _⟩ ?_); refine wpList_valueG rfl _ (by exact exec_loadHR _ _ rfl (w1.heap.size) rfl k K16.out rk_2) ?_)
      | ((with_reducible refine wpList_at ⟨some 9, _, _, _, _, _⟩ ?_); refine wpList_valueG rfl _ (by exact exec_eql16b _ _ _ rfl h.rt k.rt H16.out K16.out false HQ.out rfl rfl) ?_))
    go_ret
    exact ⟨by rw [HE.out]; rfl, B2⟩
  | true =>
    have HQ := Lib.hid hq
    rw [hq, Bool.true_and] at HE
    cases hz : decide (bk h.ps = bk k.ps) with
    | false =>
      rw [hz, Bool.false_and] at HE
      rw [hz] at HF
      clear HL hq hz
      go_enter Try.func15, Try.ntmps15
      go_wp2_with (first
        | ((with_reducible refine wpList_at ⟨some 2, _, _, _, _, _⟩ ?_); refine wpList_box_row rfl _ _ rfl (h.cs) rfl ?_; intro w1 rh_1 s1 g1; have k1 : Below w.heap.size w w1 := grown_below g1 (Nat.le_refl _) (by simp); have B1 : Below w.heap.size w w1 := k1; have okh_1 := hok.on k1; have okk_1 := kok.on k1; have crh0 := rh_1.cell (j := 0) rfl; have crh1 := rh_1.cell (j := 1) rfl)
        | ((with_reducible refine wpList_at ⟨some 3, _, _, _, _, _⟩ ?_); refine wpList_box_row rfl _ _ rfl (k.cs) rfl ?_; intro w2 rk_2 s2 g2; have k2 : Below w1.heap.size w1 w2 := grown_below g2 (Nat.le_refl _) (by simp); have B2 := B1.trans (k2.mono B1.size); have okh_2 := okh_1.on k2; have okk_2 := okk_1.on k2; have rh_2 := rh_1.on k2; clear okh_1 okk_1 rh_1; have crh0 := rh_2.cell (j := 0) rfl; have crh1 := rh_2.cell (j := 1) rfl; have crk0 := rk_2.cell (j := 0) rfl; have crk1 := rk_2.cell (j := 1) rfl)
        | ((with_reducible refine wpList_at ⟨some 6, _, _, _, _, _⟩ ?_); refine wpList_valueG rfl _ (by exact exec_loadHR _ _ rfl (w.heap.size) rfl h H16.out rh_2) ?_)
        | ((with_reducible refine wpList_at ⟨some 8, _, _, _, _, _⟩ ?_); refine wpList_valueG rfl _ (by exact exec_loadHR _ _ rfl (w1.heap.size) rfl k K16.out rk_2) ?_)
        | ((with_reducible refine wpList_at ⟨some 9, _, _, _, _, _⟩ ?_); refine wpList_valueG rfl _ (by exact exec_eql16b _ _ _ rfl h.rt k.rt H16.out K16.out true HQ.out rfl rfl) ?_))
      refine ((HF _ okh_2.1.1 okk_2.1.1).out).mono ?_
      rintro e w3 ⟨rfl, h3⟩
      have B3 := B2.trans (h3.mono B2.size)
      have okh_3 := okh_2.on h3
      have okk_3 := okk_2.on h3
      have rh_3 := rh_2.on h3
      have rk_3 := rk_2.on h3
      clear okh_2 okk_2 rh_2 rk_2
      have crh0 := rh_3.cell (j := 0) rfl
      have crh1 := rh_3.cell (j := 1) rfl
      have crk0 := rk_3.cell (j := 0) rfl
      have crk1 := rk_3.cell (j := 1) rfl
      go_wp2_with fail
      go_ret
      exact ⟨by rw [HE.out]; rfl, B3⟩
    | true =>
      rw [hz, Bool.true_and] at HE
      rw [hz] at HF
      clear hq hz
      generalize decide (h.fs = k.fs) = V at *
      go_enter Try.func15, Try.ntmps15
      go_wp2_with (first
        | ((with_reducible refine wpList_at ⟨some 2, _, _, _, _, _⟩ ?_); refine wpList_box_row rfl _ _ rfl (h.cs) rfl ?_; intro w1 rh_1 s1 g1; have k1 : Below w.heap.size w w1 := grown_below g1 (Nat.le_refl _) (by simp); have B1 : Below w.heap.size w w1 := k1; have okh_1 := hok.on k1; have okk_1 := kok.on k1; have crh0 := rh_1.cell (j := 0) rfl; have crh1 := rh_1.cell (j := 1) rfl)
        | ((with_reducible refine wpList_at ⟨some 3, _, _, _, _, _⟩ ?_); refine wpList_box_row rfl _ _ rfl (k.cs) rfl ?_; intro w2 rk_2 s2 g2; have k2 : Below w1.heap.size w1 w2 := grown_below g2 (Nat.le_refl _) (by simp); have B2 := B1.trans (k2.mono B1.size); have okh_2 := okh_1.on k2; have okk_2 := okk_1.on k2; have rh_2 := rh_1.on k2; clear okh_1 okk_1 rh_1; have crh0 := rh_2.cell (j := 0) rfl; have crh1 := rh_2.cell (j := 1) rfl; have crk0 := rk_2.cell (j := 0) rfl; have crk1 := rk_2.cell (j := 1) rfl)
        | ((with_reducible refine wpList_at ⟨some 6, _, _, _, _, _⟩ ?_); refine wpList_valueG rfl _ (by exact exec_loadHR _ _ rfl (w.heap.size) rfl h H16.out rh_2) ?_)
        | ((with_reducible refine wpList_at ⟨some 8, _, _, _, _, _⟩ ?_); refine wpList_valueG rfl _ (by exact exec_loadHR _ _ rfl (w1.heap.size) rfl k K16.out rk_2) ?_)
        | ((with_reducible refine wpList_at ⟨some 9, _, _, _, _, _⟩ ?_); refine wpList_valueG rfl _ (by exact exec_eql16b _ _ _ rfl h.rt k.rt H16.out K16.out true HQ.out rfl rfl) ?_))
      refine ((HF _ okh_2.1.1 okk_2.1.1).out).mono ?_
      rintro e w3 ⟨rfl, h3⟩
      have B3 := B2.trans (h3.mono B2.size)
      have okh_3 := okh_2.on h3
      have okk_3 := okk_2.on h3
      have rh_3 := rh_2.on h3
      have rk_3 := rk_2.on h3
      clear okh_2 okk_2 rh_2 rk_2
      have crh0 := rh_3.cell (j := 0) rfl
      have crh1 := rh_3.cell (j := 1) rfl
      have crk0 := rk_3.cell (j := 0) rfl
      have crk1 := rk_3.cell (j := 1) rfl
      go_wp2_with (first
        | ((with_reducible refine wpList_at ⟨some 21, _, _, _, _, _⟩ ?_); refine wpList_valueG rfl _ (by exact exec_loadHL _ _ rfl (w.heap.size) rfl h rh_3) ?_)
        | ((with_reducible refine wpList_at ⟨some 23, _, _, _, _, _⟩ ?_); refine wpList_valueG rfl _ (by exact exec_loadHL _ _ rfl (w1.heap.size) rfl k rk_3) ?_))
      refine ((HL _ okh_3.2.1 okk_3.2.1).out).mono ?_
      rintro e w4 ⟨rfl, h4⟩
      have B4 := B3.trans (h4.mono B3.size)
      have okh_4 := okh_3.on h4
      have okk_4 := okk_3.on h4
      have rh_4 := rh_3.on h4
      have rk_4 := rk_3.on h4
      clear okh_3 okk_3 rh_3 rk_3
      have crh0 := rh_4.cell (j := 0) rfl
      have crh1 := rh_4.cell (j := 1) rfl
      have crk0 := rk_4.cell (j := 0) rfl
      have crk1 := rk_4.cell (j := 1) rfl
      go_wp2_with fail
      go_ret
      exact ⟨by rw [HE.out]; rfl, B4⟩

set_option maxRecDepth 100000 in
set_option maxHeartbeats 4000000 in
theorem rsame_any9 (h k : Hw) (w : World) (hok : HwOK w h) (kok : HwOK w k) (hs : dvSm h.s) : Calls Try.prog 14 #[h.v, k.v] w (TellsB (dvSame h.s k.s) w) := by
  have H16 := Lib.hid hok.h16
  have K16 := Lib.hid kok.h16
  have hn := hok.sm1 hs
  have HLP := Lib.hid hok.2.1.len
  have HLQ := Lib.hid kok.2.1.len
  have HF := fun W h1 h2 => Lib.hid (rsame_any h.A k.A h.n h.c k.n k.c h.ps k.ps W h1 h2 (by omega) hok.1.2.2)
  have HE : Hid (dvSame h.s k.s = (decide (h.rt = k.rt) && (decide (bk h.ps = bk k.ps) && decide (h.fs = k.fs)))) := Lib.hid rfl
  rw [show (bk h.ps == bk k.ps) = decide (bk h.ps = bk k.ps) by by_cases hh : bk h.ps = bk k.ps <;> simp [hh]] at HF
  generalize dvSame h.s k.s = E at *
  have HP1 := Lib.hid hok.1.1
  have HP2 := Lib.hid kok.1.1
  have hr := hok.2.1.1
  have hrq := kok.2.1.1
  have hm := hok.2.1.2.2.1
  unfold maxLen at hm
  clear hs hn hok kok
  cases hq : decide (h.rt = k.rt) with
  | false =>
    have HQ : Hid ((!decide (h.rt = k.rt)) = true) := Lib.hid (by rw [hq]; rfl)
    rw [hq, Bool.false_and] at HE
    clear HF hq HLP HLQ HP1 HP2 hr hrq hm
    go_enter Try.func14, Try.ntmps14
    go_wp2_with (first
      | ((with_reducible refine wpList_at ⟨some 2, _, _, _, _, _⟩ ?_); refine wpList_box_row rfl _ _ rfl (h.cs) rfl ?_; intro w1 rh_1 s1 g1; have k1 : Below w.heap.size w w1 := grown_below g1 (Nat.le_refl _) (by simp); have B1 : Below w.heap.size w w1 := k1; have crh0 := rh_1.cell (j := 0) rfl; have crh1 := rh_1.cell (j := 1) rfl)
      | ((with_reducible refine wpList_at ⟨some 3, _, _, _, _, _⟩ ?_); refine wpList_box_row rfl _ _ rfl (k.cs) rfl ?_; intro w2 rk_2 s2 g2; have k2 : Below w1.heap.size w1 w2 := grown_below g2 (Nat.le_refl _) (by simp); have B2 := B1.trans (k2.mono B1.size); have rh_2 := rh_1.on k2; clear rh_1; have crh0 := rh_2.cell (j := 0) rfl; have crh1 := rh_2.cell (j := 1) rfl; have crk0 := rk_2.cell (j := 0) rfl; have crk1 := rk_2.cell (j := 1) rfl)
      | ((with_reducible refine wpList_at ⟨some 7, _, _, _, _, _⟩ ?_); refine wpList_valueG rfl _ (by exact exec_loadHR _ _ rfl (w.heap.size) rfl h H16.out rh_2) ?_)
      | ((with_reducible refine wpList_at ⟨some 9, _, _, _, _, _⟩ ?_); refine wpList_valueG rfl _ (by exact exec_loadHR _ _ rfl (w1.heap.size) rfl k K16.out rk_2) ?_)
      | ((with_reducible refine wpList_at ⟨some 10, _, _, _, _, _⟩ ?_); refine wpList_valueG rfl _ (by exact exec_neq16b _ _ _ rfl h.rt k.rt H16.out K16.out true HQ.out rfl rfl) ?_))
    go_ret
    exact ⟨by rw [HE.out]; rfl, B2⟩
  | true =>
    have HQ : Hid ((!decide (h.rt = k.rt)) = false) := Lib.hid (by rw [hq]; rfl)
    rw [hq, Bool.true_and] at HE
    clear hq
    by_cases hnm : h.m = k.m
    rotate_left
    · have hne : h.fs ≠ k.fs := fun e => hnm (by rw [← HLP.out, ← HLQ.out, e])
      rw [decide_eq_false hne, Bool.and_false] at HE
      have hz : ((h.m : Int) != (k.m : Int)) = true := by simp only [bne_iff_ne, ne_eq]; omega
      clear HF HLP HLQ HP1 HP2 hr hrq hne hnm hm
      go_enter Try.func14, Try.ntmps14
      go_wp2_with (first
        | ((with_reducible refine wpList_at ⟨some 2, _, _, _, _, _⟩ ?_); refine wpList_box_row rfl _ _ rfl (h.cs) rfl ?_; intro w1 rh_1 s1 g1; have k1 : Below w.heap.size w w1 := grown_below g1 (Nat.le_refl _) (by simp); have B1 : Below w.heap.size w w1 := k1; have crh0 := rh_1.cell (j := 0) rfl; have crh1 := rh_1.cell (j := 1) rfl)
        | ((with_reducible refine wpList_at ⟨some 3, _, _, _, _, _⟩ ?_); refine wpList_box_row rfl _ _ rfl (k.cs) rfl ?_; intro w2 rk_2 s2 g2; have k2 : Below w1.heap.size w1 w2 := grown_below g2 (Nat.le_refl _) (by simp); have B2 := B1.trans (k2.mono B1.size); have rh_2 := rh_1.on k2; clear rh_1; have crh0 := rh_2.cell (j := 0) rfl; have crh1 := rh_2.cell (j := 1) rfl; have crk0 := rk_2.cell (j := 0) rfl; have crk1 := rk_2.cell (j := 1) rfl)
        | ((with_reducible refine wpList_at ⟨some 7, _, _, _, _, _⟩ ?_); refine wpList_valueG rfl _ (by exact exec_loadHR _ _ rfl (w.heap.size) rfl h H16.out rh_2) ?_)
        | ((with_reducible refine wpList_at ⟨some 9, _, _, _, _, _⟩ ?_); refine wpList_valueG rfl _ (by exact exec_loadHR _ _ rfl (w1.heap.size) rfl k K16.out rk_2) ?_)
        | ((with_reducible refine wpList_at ⟨some 10, _, _, _, _, _⟩ ?_); refine wpList_valueG rfl _ (by exact exec_neq16b _ _ _ rfl h.rt k.rt H16.out K16.out false HQ.out rfl rfl) ?_))
      go_ret
      exact ⟨by rw [HE.out]; rfl, B2⟩
    · have hz : ((h.m : Int) != (k.m : Int)) = false := by rw [hnm]; simp
      have HNM := Lib.hid hnm
      clear hnm
      go_enter Try.func14, Try.ntmps14
      go_wp2_with (first
        | ((with_reducible refine wpList_at ⟨some 2, _, _, _, _, _⟩ ?_); refine wpList_box_row rfl _ _ rfl (h.cs) rfl ?_; intro w1 rh_1 s1 g1; have k1 : Below w.heap.size w w1 := grown_below g1 (Nat.le_refl _) (by simp); have B1 : Below w.heap.size w w1 := k1; have crh0 := rh_1.cell (j := 0) rfl; have crh1 := rh_1.cell (j := 1) rfl)
        | ((with_reducible refine wpList_at ⟨some 3, _, _, _, _, _⟩ ?_); refine wpList_box_row rfl _ _ rfl (k.cs) rfl ?_; intro w2 rk_2 s2 g2; have k2 : Below w1.heap.size w1 w2 := grown_below g2 (Nat.le_refl _) (by simp); have B2 := B1.trans (k2.mono B1.size); have rh_2 := rh_1.on k2; clear rh_1; have crh0 := rh_2.cell (j := 0) rfl; have crh1 := rh_2.cell (j := 1) rfl; have crk0 := rk_2.cell (j := 0) rfl; have crk1 := rk_2.cell (j := 1) rfl)
        | ((with_reducible refine wpList_at ⟨some 7, _, _, _, _, _⟩ ?_); refine wpList_valueG rfl _ (by exact exec_loadHR _ _ rfl (w.heap.size) rfl h H16.out rh_2) ?_)
        | ((with_reducible refine wpList_at ⟨some 9, _, _, _, _, _⟩ ?_); refine wpList_valueG rfl _ (by exact exec_loadHR _ _ rfl (w1.heap.size) rfl k K16.out rk_2) ?_)
        | ((with_reducible refine wpList_at ⟨some 10, _, _, _, _, _⟩ ?_); refine wpList_valueG rfl _ (by exact exec_neq16b _ _ _ rfl h.rt k.rt H16.out K16.out false HQ.out rfl rfl) ?_))
      clear g1 g2 k1 k2 s2 crh0 crh1 crk0 crk1
      obtain ⟨N, hN⟩ : ∃ N, N = h.m := ⟨_, rfl⟩
      have HN := Lib.hid hN
      go_loopg [5] N (fun g s5 wr => ∃ i : Nat, Hid (i + g = h.m) ∧ i ≤ h.m ∧ s5 = .int .i64 (i : Int) ∧ Hid (h.fs.take i = k.fs.take i) ∧ Row wr w.heap.size 31 h.cs ∧ Row wr w1.heap.size 31 k.cs ∧ Below w.heap.size w wr)
      case atStart => exact ⟨0, by show _ = _; rw [HN.out]; omega, by omega, rfl, Lib.hid rfl, rh_2, rk_2, B2⟩
      case round =>
        obtain ⟨i, HK, hk, rfl, HT, e1, e2, hB⟩ := hrel
        have c1 := e1.cell (j := 1) (u := .slice h.B h.m h.d) rfl
        have c2 := e2.cell (j := 1) (u := .slice k.B k.m k.d) rfl
        by_cases hlt : i < h.m
        · obtain ⟨ad, s, hA, hlta, hss, hc0⟩ := hr.str_at hlt
          have hltk : i < k.m := by have := HNM.out; omega
          obtain ⟨bd, u, hBd, hltb, ht, hd0⟩ := hrq.str_at hltk
          have HS := Lib.hid hss
          have HTT := Lib.hid ht
          have hc := (hB.cell (by rw [block_of_add]; exact hlta)).trans hc0
          have hd := (hB.cell (by rw [block_of_add]; exact hltb)).trans hd0
          rw [hA] at c1
          rw [hBd] at c2
          clear hss ht hc0 hd0
          by_cases hst : s = u
          · subst hst
            go_wp2_with fail
            go_quiet (fail)
            have e1n := e1.drewN nq
            have e2n := e2.drewN nq
            have hBn := below_drewN hB nq
            go_wp2_with fail
            go_roundg (gk - 1)
            case measure => have := HK.out; omega
            case rel => exact ⟨i + 1, by have := HK.out; show _ = _; omega, by omega, by go_num, Lib.hid (take_snoc_same HS.out HTT.out HT.out rfl), e1n, e2n, hBn⟩
          · have HNE := Lib.hid (ne_at HS.out HTT.out hst)
            have hzz := str_ne hst
            go_wp2_with fail
            go_quiet (fail)
            go_wp2_with fail
            go_ret
            exact ⟨by rw [HE.out, HNE.out, Bool.and_false]; rfl, below_drewN hB nq⟩
        · obtain rfl : i = h.m := by omega
          have HEQ := Lib.hid (eq_of_take HLP.out (by rw [HLQ.out, ← HNM.out]) HT.out)
          rw [decide_eq_true HEQ.out, Bool.and_true] at HE
          go_wp2_with (first
            | (refine wpList_valueG (o := ⟨some 44, _, _, _, _, _⟩) rfl _ (by exact exec_loadHF _ _ rfl w.heap.size rfl h e1) ?_)
            | (refine wpList_valueG (o := ⟨some 46, _, _, _, _, _⟩) rfl _ (by exact exec_loadHF _ _ rfl w1.heap.size rfl k e2) ?_))
          refine (HF _ ((HP1.out.below hB).more hB.size) ((HP2.out.below hB).more hB.size)).out.mono ?_
          rintro e w9 ⟨rfl, b9⟩
          go_wp2_with fail
          go_ret
          exact ⟨by rw [HE.out]; rfl, hB.trans (b9.mono hB.size)⟩
end Go.Proofs.Ytkepmhkakkkliaa
