/-
  What the reference's Level and Raise return: contracts by walks. Condition: the log's length.
-/
import Derived.Test.YtfcbcclcmgheeaaRtT
set_option linter.unusedSimpArgs false
set_option linter.unusedVariables false
namespace Go.Proofs.Ytfcbcclcmgheeaa
open Go.RowKit

set_option maxRecDepth 100000 in
set_option maxHeartbeats 4000000 in
theorem cLevel_any (bank bits : Int) (A : Option Addr) (n d : Nat) (l : List DvR) (w : World) (hn : n ≤ 100000) (hr : Reads w w.heap.size 2 A n (rrs l)) :
    Calls Try.prog 11 #[.int .i64 bank, .int .i64 bits, .slice A n d] w (GivesS (rtLvA bank bits (rxs l)) w) := by
  unfold rtLvA
  by_cases h0 : bank < 0
  · rw [show rtIn bank bits = false by unfold rtIn; rw [decide_eq_false (by omega)]; rfl, if_neg (by decide)]
    go_enter Try.func11, Try.ntmps11
    go_wp2_with (first
      | (with_reducible refine wpList_alloc_row (o := ⟨some 6, _, _, _, _, _⟩) rfl _ rfl zeroA zero_ac ?_; intro w1 za_1 s1 g1; have k1 : Below w.heap.size w w1 := grown_below g1 (Nat.le_refl _) (by simp); have B1 : Below w.heap.size w w1 := k1)
      | (with_reducible refine wpList_alloc_row (o := ⟨some 7, _, _, _, _, _⟩) rfl _ rfl zeroLO zero_lo ?_; intro w2 zo_2 s2 g2; have k2 : Below w1.heap.size w1 w2 := grown_below g2 (Nat.le_refl _) (by simp); have B2 := B1.trans (k2.mono B1.size); have za_2 := za_1.on k2; clear za_1)
      | ((with_reducible refine wpList_at ⟨none, .store _ (.tmp 6) _, _, _, _, _⟩ ?_); refine wpList_store_all rfl _ _ _ rfl (w.heap.size) rfl _ _ za_2 (noAc.cs) rfl (noAc.cs_one) rfl (by kernel_rfl) ?_; intro w3 za_3 g3; have zo_3 := zo_2.kept g3 (by simp; omega); have B3 := below_kept B2 g3 B2.size (by rintro q hq; cases hq; omega); have sz3 := g3.size; clear zo_2)
      | ((with_reducible refine wpList_at ⟨none, .store _ (.tmp 7) _, _, _, _, _⟩ ?_); refine wpList_store_all rfl _ _ _ rfl (w1.heap.size) rfl _ _ zo_3 ((⟨0, 1⟩ : RtO).cs) rfl ((⟨0, 1⟩ : RtO).cs_one) rfl (by kernel_rfl) ?_; intro w4 zo_4 g4; have za_4 := za_3.kept g4 (by simp; omega); have B4 := below_kept B3 g4 B3.size (by rintro q hq; cases hq; omega); have sz4 := g4.size; clear za_3))
    exact bodyPost_ret (results_cells2 Try.results11 _ _ _ _ _ _ rfl rfl (load_ac (a := noAc) za_4) (load_lo (a := ⟨0, 1⟩) zo_4)) rfl ⟨rfl, B4⟩
  · by_cases h1 : 3 < bank
    · rw [show rtIn bank bits = false by unfold rtIn; rw [decide_eq_false (p := bank < 4) (by omega), Bool.false_and, Bool.and_false], if_neg (by decide)]
      go_enter Try.func11, Try.ntmps11
      go_wp2_with (first
        | (with_reducible refine wpList_alloc_row (o := ⟨some 6, _, _, _, _, _⟩) rfl _ rfl zeroA zero_ac ?_; intro w1 za_1 s1 g1; have k1 : Below w.heap.size w w1 := grown_below g1 (Nat.le_refl _) (by simp); have B1 : Below w.heap.size w w1 := k1)
        | (with_reducible refine wpList_alloc_row (o := ⟨some 7, _, _, _, _, _⟩) rfl _ rfl zeroLO zero_lo ?_; intro w2 zo_2 s2 g2; have k2 : Below w1.heap.size w1 w2 := grown_below g2 (Nat.le_refl _) (by simp); have B2 := B1.trans (k2.mono B1.size); have za_2 := za_1.on k2; clear za_1)
        | ((with_reducible refine wpList_at ⟨none, .store _ (.tmp 6) _, _, _, _, _⟩ ?_); refine wpList_store_all rfl _ _ _ rfl (w.heap.size) rfl _ _ za_2 (noAc.cs) rfl (noAc.cs_one) rfl (by kernel_rfl) ?_; intro w3 za_3 g3; have zo_3 := zo_2.kept g3 (by simp; omega); have B3 := below_kept B2 g3 B2.size (by rintro q hq; cases hq; omega); have sz3 := g3.size; clear zo_2)
        | ((with_reducible refine wpList_at ⟨none, .store _ (.tmp 7) _, _, _, _, _⟩ ?_); refine wpList_store_all rfl _ _ _ rfl (w1.heap.size) rfl _ _ zo_3 ((⟨0, 1⟩ : RtO).cs) rfl ((⟨0, 1⟩ : RtO).cs_one) rfl (by kernel_rfl) ?_; intro w4 zo_4 g4; have za_4 := za_3.kept g4 (by simp; omega); have B4 := below_kept B3 g4 B3.size (by rintro q hq; cases hq; omega); have sz4 := g4.size; clear za_3))
      exact bodyPost_ret (results_cells2 Try.results11 _ _ _ _ _ _ rfl rfl (load_ac (a := noAc) za_4) (load_lo (a := ⟨0, 1⟩) zo_4)) rfl ⟨rfl, B4⟩
    · by_cases h2 : bits < 0
      · rw [show rtIn bank bits = false by unfold rtIn; rw [decide_eq_false (p := 0 ≤ bits) (by omega), Bool.false_and, Bool.and_false, Bool.and_false], if_neg (by decide)]
        go_enter Try.func11, Try.ntmps11
        go_wp2_with (first
          | (with_reducible refine wpList_alloc_row (o := ⟨some 6, _, _, _, _, _⟩) rfl _ rfl zeroA zero_ac ?_; intro w1 za_1 s1 g1; have k1 : Below w.heap.size w w1 := grown_below g1 (Nat.le_refl _) (by simp); have B1 : Below w.heap.size w w1 := k1)
          | (with_reducible refine wpList_alloc_row (o := ⟨some 7, _, _, _, _, _⟩) rfl _ rfl zeroLO zero_lo ?_; intro w2 zo_2 s2 g2; have k2 : Below w1.heap.size w1 w2 := grown_below g2 (Nat.le_refl _) (by simp); have B2 := B1.trans (k2.mono B1.size); have za_2 := za_1.on k2; clear za_1)
          | ((with_reducible refine wpList_at ⟨none, .store _ (.tmp 6) _, _, _, _, _⟩ ?_); refine wpList_store_all rfl _ _ _ rfl (w.heap.size) rfl _ _ za_2 (noAc.cs) rfl (noAc.cs_one) rfl (by kernel_rfl) ?_; intro w3 za_3 g3; have zo_3 := zo_2.kept g3 (by simp; omega); have B3 := below_kept B2 g3 B2.size (by rintro q hq; cases hq; omega); have sz3 := g3.size; clear zo_2)
          | ((with_reducible refine wpList_at ⟨none, .store _ (.tmp 7) _, _, _, _, _⟩ ?_); refine wpList_store_all rfl _ _ _ rfl (w1.heap.size) rfl _ _ zo_3 ((⟨0, 1⟩ : RtO).cs) rfl ((⟨0, 1⟩ : RtO).cs_one) rfl (by kernel_rfl) ?_; intro w4 zo_4 g4; have za_4 := za_3.kept g4 (by simp; omega); have B4 := below_kept B3 g4 B3.size (by rintro q hq; cases hq; omega); have sz4 := g4.size; clear za_3))
        exact bodyPost_ret (results_cells2 Try.results11 _ _ _ _ _ _ rfl rfl (load_ac (a := noAc) za_4) (load_lo (a := ⟨0, 1⟩) zo_4)) rfl ⟨rfl, B4⟩
      · by_cases h3 : 16 < bits
        · rw [show rtIn bank bits = false by unfold rtIn; rw [decide_eq_false (p := bits ≤ 16) (by omega), Bool.and_false, Bool.and_false, Bool.and_false], if_neg (by decide)]
          go_enter Try.func11, Try.ntmps11
          go_wp2_with (first
            | (with_reducible refine wpList_alloc_row (o := ⟨some 6, _, _, _, _, _⟩) rfl _ rfl zeroA zero_ac ?_; intro w1 za_1 s1 g1; have k1 : Below w.heap.size w w1 := grown_below g1 (Nat.le_refl _) (by simp); have B1 : Below w.heap.size w w1 := k1)
            | (with_reducible refine wpList_alloc_row (o := ⟨some 7, _, _, _, _, _⟩) rfl _ rfl zeroLO zero_lo ?_; intro w2 zo_2 s2 g2; have k2 : Below w1.heap.size w1 w2 := grown_below g2 (Nat.le_refl _) (by simp); have B2 := B1.trans (k2.mono B1.size); have za_2 := za_1.on k2; clear za_1)
            | ((with_reducible refine wpList_at ⟨none, .store _ (.tmp 6) _, _, _, _, _⟩ ?_); refine wpList_store_all rfl _ _ _ rfl (w.heap.size) rfl _ _ za_2 (noAc.cs) rfl (noAc.cs_one) rfl (by kernel_rfl) ?_; intro w3 za_3 g3; have zo_3 := zo_2.kept g3 (by simp; omega); have B3 := below_kept B2 g3 B2.size (by rintro q hq; cases hq; omega); have sz3 := g3.size; clear zo_2)
            | ((with_reducible refine wpList_at ⟨none, .store _ (.tmp 7) _, _, _, _, _⟩ ?_); refine wpList_store_all rfl _ _ _ rfl (w1.heap.size) rfl _ _ zo_3 ((⟨0, 1⟩ : RtO).cs) rfl ((⟨0, 1⟩ : RtO).cs_one) rfl (by kernel_rfl) ?_; intro w4 zo_4 g4; have za_4 := za_3.kept g4 (by simp; omega); have B4 := below_kept B3 g4 B3.size (by rintro q hq; cases hq; omega); have sz4 := g4.size; clear za_3))
          exact bodyPost_ret (results_cells2 Try.results11 _ _ _ _ _ _ rfl rfl (load_ac (a := noAc) za_4) (load_lo (a := ⟨0, 1⟩) zo_4)) rfl ⟨rfl, B4⟩
        · rw [show rtIn bank bits = true by unfold rtIn; rw [decide_eq_true (p := bank < 4) (by omega), decide_eq_true (p := 0 ≤ bank) (by omega), decide_eq_true (p := 0 ≤ bits) (by omega), decide_eq_true (p := bits ≤ 16) (by omega)]; rfl, if_pos rfl]
          obtain ⟨nb, rfl⟩ : ∃ nb : Nat, bits = (nb : Int) := ⟨bits.toNat, by omega⟩
          rw [Int.toNat_natCast, ← rf_level]
          have HLV := fun g W h => Lib.hid (clevelOf_any g w.heap.size bank (rtS0 (rxs l)) (rtS0_ok _) nb (by omega) W h)
          have HLE := rfLev_le (bank := bank) (bits := nb) (s := rtS0 (rxs l))
          generalize rfLev bank nb (rtS0 (rxs l)) = FL at *
          obtain ⟨sv, nv⟩ := FL
          simp only at *
          go_enter Try.func11, Try.ntmps11
          go_wp2_with (first
            | (with_reducible refine wpList_alloc_row (o := ⟨some 6, _, _, _, _, _⟩) rfl _ rfl zeroA zero_ac ?_; intro w1 za_1 s1 g1; have k1 : Below w.heap.size w w1 := grown_below g1 (Nat.le_refl _) (by simp); have B1 : Below w.heap.size w w1 := k1)
            | (with_reducible refine wpList_alloc_row (o := ⟨some 7, _, _, _, _, _⟩) rfl _ rfl zeroLO zero_lo ?_; intro w2 zo_2 s2 g2; have k2 : Below w1.heap.size w1 w2 := grown_below g2 (Nat.le_refl _) (by simp); have B2 := B1.trans (k2.mono B1.size); have za_2 := za_1.on k2; clear za_1)
            | ((with_reducible refine wpList_at ⟨some 29, _, _, _, _, _⟩ ?_); refine wpList_box_row rfl _ _ rfl ((⟨A, n, d, 0, noAc, false⟩ : Cu).cs) rfl ?_; intro w3 rc3 s3 g3; have k3 : Below w2.heap.size w2 w3 := grown_below g3 (Nat.le_refl _) (by simp); have B3 := B2.trans (k3.mono B2.size); have za_3 := za_2.on k3; have zo_3 := zo_2.on k3; clear za_2 zo_2; have cu_3 : CuOK w3 w2.heap.size w.heap.size (rtS0 (rxs l)) := ⟨l, A, n, d, 0, rfl, Nat.zero_le _, hn, by omega, rc3, hr.below (Below.mono B3 (Nat.le_refl _))⟩))
          refine ((HLV w2.heap.size _ cu_3).out).mono ?_
          rintro e w4 ⟨rfl, cu_4, g4⟩
          have sz4 := g4.size
          have za_4 := za_3.kept g4 (by simp; omega)
          have zo_4 := zo_3.kept g4 (by simp; omega)
          have B4 := below_kept B3 g4 B3.size (by rintro q hq; cases hq; omega)
          go_wp2_with fail
          refine (ctold_any w2.heap.size w.heap.size sv (nv : Int) 0 _ cu_4).mono ?_
          rintro e w5 ⟨rfl, h5⟩
          have B5 := B4.trans (h5.mono B4.size)
          have za_5 := za_4.on h5
          have zo_5 := zo_4.on h5
          have cu_5 := cu_4.on h5
          clear za_4 zo_4 cu_4
          go_wp2_with (first
            | ((with_reducible refine wpList_at ⟨none, .store _ (.tmp 6) _, _, _, _, _⟩ ?_); refine wpList_store_all rfl _ _ _ rfl (w.heap.size) rfl _ _ za_5 ((_ : DvA).cs) rfl (DvA.cs_one _) rfl (by kernel_rfl) ?_; intro w6 za_6 g6; have zo_6 := zo_5.kept g6 (by simp; omega); have cu_6 := cu_5.kept g6 (by omega) (by omega); have B6 := below_kept B5 g6 B5.size (by rintro q hq; cases hq; omega); have sz6 := g6.size; clear zo_5 cu_5)
            | ((with_reducible refine wpList_at ⟨none, .store _ (.tmp 7) _, _, _, _, _⟩ ?_); refine wpList_store_all rfl _ _ _ rfl (w1.heap.size) rfl _ _ zo_6 ((_ : RtO).cs) rfl (RtO.cs_one _) rfl (by kernel_rfl) ?_; intro w7 zo_7 g7; have za_7 := za_6.kept g7 (by simp; omega); have cu_7 := cu_6.kept g7 (by omega) (by omega); have B7 := below_kept B6 g7 B6.size (by rintro q hq; cases hq; omega); have sz7 := g7.size; clear za_6 cu_6))
          exact bodyPost_ret (results_cells2 Try.results11 _ _ _ _ _ _ rfl rfl (load_ac za_7) (load_lo zo_7)) rfl ⟨rfl, B7⟩
set_option maxRecDepth 100000 in
set_option maxHeartbeats 4000000 in
theorem cRaise_any (bank bits target : Int) (A : Option Addr) (n d : Nat) (l : List DvR) (w : World) (hn : n ≤ 100000) (hr : Reads w w.heap.size 2 A n (rrs l)) :
    Calls Try.prog 13 #[.int .i64 bank, .int .i64 bits, .int .i64 target, .slice A n d] w (GivesS (rtRsA bank bits target (rxs l)) w) := by
  unfold rtRsA
  by_cases h0 : bank < 0
  · rw [show rtIn bank bits = false by unfold rtIn; rw [decide_eq_false (by omega)]; rfl, Bool.false_and, if_neg (by decide)]
    go_enter Try.func13, Try.ntmps13
    go_wp2_with (first
      | (with_reducible refine wpList_alloc_row (o := ⟨some 8, _, _, _, _, _⟩) rfl _ rfl zeroA zero_ac ?_; intro w1 za_1 s1 g1; have k1 : Below w.heap.size w w1 := grown_below g1 (Nat.le_refl _) (by simp); have B1 : Below w.heap.size w w1 := k1)
      | (with_reducible refine wpList_alloc_row (o := ⟨some 9, _, _, _, _, _⟩) rfl _ rfl zeroLO zero_lo ?_; intro w2 zo_2 s2 g2; have k2 : Below w1.heap.size w1 w2 := grown_below g2 (Nat.le_refl _) (by simp); have B2 := B1.trans (k2.mono B1.size); have za_2 := za_1.on k2; clear za_1)
      | ((with_reducible refine wpList_at ⟨none, .store _ (.tmp 8) _, _, _, _, _⟩ ?_); refine wpList_store_all rfl _ _ _ rfl (w.heap.size) rfl _ _ za_2 (noAc.cs) rfl (noAc.cs_one) rfl (by kernel_rfl) ?_; intro w3 za_3 g3; have zo_3 := zo_2.kept g3 (by simp; omega); have B3 := below_kept B2 g3 B2.size (by rintro q hq; cases hq; omega); have sz3 := g3.size; clear zo_2)
      | ((with_reducible refine wpList_at ⟨none, .store _ (.tmp 9) _, _, _, _, _⟩ ?_); refine wpList_store_all rfl _ _ _ rfl (w1.heap.size) rfl _ _ zo_3 ((⟨0, 1⟩ : RtO).cs) rfl ((⟨0, 1⟩ : RtO).cs_one) rfl (by kernel_rfl) ?_; intro w4 zo_4 g4; have za_4 := za_3.kept g4 (by simp; omega); have B4 := below_kept B3 g4 B3.size (by rintro q hq; cases hq; omega); have sz4 := g4.size; clear za_3))
    exact bodyPost_ret (results_cells2 Try.results13 _ _ _ _ _ _ rfl rfl (load_ac (a := noAc) za_4) (load_lo (a := ⟨0, 1⟩) zo_4)) rfl ⟨rfl, B4⟩
  · by_cases h1 : 3 < bank
    · rw [show rtIn bank bits = false by unfold rtIn; rw [decide_eq_false (p := bank < 4) (by omega), Bool.false_and, Bool.and_false], Bool.false_and, if_neg (by decide)]
      go_enter Try.func13, Try.ntmps13
      go_wp2_with (first
        | (with_reducible refine wpList_alloc_row (o := ⟨some 8, _, _, _, _, _⟩) rfl _ rfl zeroA zero_ac ?_; intro w1 za_1 s1 g1; have k1 : Below w.heap.size w w1 := grown_below g1 (Nat.le_refl _) (by simp); have B1 : Below w.heap.size w w1 := k1)
        | (with_reducible refine wpList_alloc_row (o := ⟨some 9, _, _, _, _, _⟩) rfl _ rfl zeroLO zero_lo ?_; intro w2 zo_2 s2 g2; have k2 : Below w1.heap.size w1 w2 := grown_below g2 (Nat.le_refl _) (by simp); have B2 := B1.trans (k2.mono B1.size); have za_2 := za_1.on k2; clear za_1)
        | ((with_reducible refine wpList_at ⟨none, .store _ (.tmp 8) _, _, _, _, _⟩ ?_); refine wpList_store_all rfl _ _ _ rfl (w.heap.size) rfl _ _ za_2 (noAc.cs) rfl (noAc.cs_one) rfl (by kernel_rfl) ?_; intro w3 za_3 g3; have zo_3 := zo_2.kept g3 (by simp; omega); have B3 := below_kept B2 g3 B2.size (by rintro q hq; cases hq; omega); have sz3 := g3.size; clear zo_2)
        | ((with_reducible refine wpList_at ⟨none, .store _ (.tmp 9) _, _, _, _, _⟩ ?_); refine wpList_store_all rfl _ _ _ rfl (w1.heap.size) rfl _ _ zo_3 ((⟨0, 1⟩ : RtO).cs) rfl ((⟨0, 1⟩ : RtO).cs_one) rfl (by kernel_rfl) ?_; intro w4 zo_4 g4; have za_4 := za_3.kept g4 (by simp; omega); have B4 := below_kept B3 g4 B3.size (by rintro q hq; cases hq; omega); have sz4 := g4.size; clear za_3))
      exact bodyPost_ret (results_cells2 Try.results13 _ _ _ _ _ _ rfl rfl (load_ac (a := noAc) za_4) (load_lo (a := ⟨0, 1⟩) zo_4)) rfl ⟨rfl, B4⟩
    · by_cases h2 : bits < 0
      · rw [show rtIn bank bits = false by unfold rtIn; rw [decide_eq_false (p := 0 ≤ bits) (by omega), Bool.false_and, Bool.and_false, Bool.and_false], Bool.false_and, if_neg (by decide)]
        go_enter Try.func13, Try.ntmps13
        go_wp2_with (first
          | (with_reducible refine wpList_alloc_row (o := ⟨some 8, _, _, _, _, _⟩) rfl _ rfl zeroA zero_ac ?_; intro w1 za_1 s1 g1; have k1 : Below w.heap.size w w1 := grown_below g1 (Nat.le_refl _) (by simp); have B1 : Below w.heap.size w w1 := k1)
          | (with_reducible refine wpList_alloc_row (o := ⟨some 9, _, _, _, _, _⟩) rfl _ rfl zeroLO zero_lo ?_; intro w2 zo_2 s2 g2; have k2 : Below w1.heap.size w1 w2 := grown_below g2 (Nat.le_refl _) (by simp); have B2 := B1.trans (k2.mono B1.size); have za_2 := za_1.on k2; clear za_1)
          | ((with_reducible refine wpList_at ⟨none, .store _ (.tmp 8) _, _, _, _, _⟩ ?_); refine wpList_store_all rfl _ _ _ rfl (w.heap.size) rfl _ _ za_2 (noAc.cs) rfl (noAc.cs_one) rfl (by kernel_rfl) ?_; intro w3 za_3 g3; have zo_3 := zo_2.kept g3 (by simp; omega); have B3 := below_kept B2 g3 B2.size (by rintro q hq; cases hq; omega); have sz3 := g3.size; clear zo_2)
          | ((with_reducible refine wpList_at ⟨none, .store _ (.tmp 9) _, _, _, _, _⟩ ?_); refine wpList_store_all rfl _ _ _ rfl (w1.heap.size) rfl _ _ zo_3 ((⟨0, 1⟩ : RtO).cs) rfl ((⟨0, 1⟩ : RtO).cs_one) rfl (by kernel_rfl) ?_; intro w4 zo_4 g4; have za_4 := za_3.kept g4 (by simp; omega); have B4 := below_kept B3 g4 B3.size (by rintro q hq; cases hq; omega); have sz4 := g4.size; clear za_3))
        exact bodyPost_ret (results_cells2 Try.results13 _ _ _ _ _ _ rfl rfl (load_ac (a := noAc) za_4) (load_lo (a := ⟨0, 1⟩) zo_4)) rfl ⟨rfl, B4⟩
      · by_cases h3 : 16 < bits
        · rw [show rtIn bank bits = false by unfold rtIn; rw [decide_eq_false (p := bits ≤ 16) (by omega), Bool.and_false, Bool.and_false, Bool.and_false], Bool.false_and, if_neg (by decide)]
          go_enter Try.func13, Try.ntmps13
          go_wp2_with (first
            | (with_reducible refine wpList_alloc_row (o := ⟨some 8, _, _, _, _, _⟩) rfl _ rfl zeroA zero_ac ?_; intro w1 za_1 s1 g1; have k1 : Below w.heap.size w w1 := grown_below g1 (Nat.le_refl _) (by simp); have B1 : Below w.heap.size w w1 := k1)
            | (with_reducible refine wpList_alloc_row (o := ⟨some 9, _, _, _, _, _⟩) rfl _ rfl zeroLO zero_lo ?_; intro w2 zo_2 s2 g2; have k2 : Below w1.heap.size w1 w2 := grown_below g2 (Nat.le_refl _) (by simp); have B2 := B1.trans (k2.mono B1.size); have za_2 := za_1.on k2; clear za_1)
            | ((with_reducible refine wpList_at ⟨none, .store _ (.tmp 8) _, _, _, _, _⟩ ?_); refine wpList_store_all rfl _ _ _ rfl (w.heap.size) rfl _ _ za_2 (noAc.cs) rfl (noAc.cs_one) rfl (by kernel_rfl) ?_; intro w3 za_3 g3; have zo_3 := zo_2.kept g3 (by simp; omega); have B3 := below_kept B2 g3 B2.size (by rintro q hq; cases hq; omega); have sz3 := g3.size; clear zo_2)
            | ((with_reducible refine wpList_at ⟨none, .store _ (.tmp 9) _, _, _, _, _⟩ ?_); refine wpList_store_all rfl _ _ _ rfl (w1.heap.size) rfl _ _ zo_3 ((⟨0, 1⟩ : RtO).cs) rfl ((⟨0, 1⟩ : RtO).cs_one) rfl (by kernel_rfl) ?_; intro w4 zo_4 g4; have za_4 := za_3.kept g4 (by simp; omega); have B4 := below_kept B3 g4 B3.size (by rintro q hq; cases hq; omega); have sz4 := g4.size; clear za_3))
          exact bodyPost_ret (results_cells2 Try.results13 _ _ _ _ _ _ rfl rfl (load_ac (a := noAc) za_4) (load_lo (a := ⟨0, 1⟩) zo_4)) rfl ⟨rfl, B4⟩
        · rw [show rtIn bank bits = true by unfold rtIn; rw [decide_eq_true (p := bank < 4) (by omega), decide_eq_true (p := 0 ≤ bank) (by omega), decide_eq_true (p := 0 ≤ bits) (by omega), decide_eq_true (p := bits ≤ 16) (by omega)]; rfl, Bool.true_and]
          by_cases h4 : target < 0
          · rw [decide_eq_false (p := 0 ≤ target) (by omega), Bool.false_and, if_neg (by decide)]
            go_enter Try.func13, Try.ntmps13
            go_wp2_with (first
              | (with_reducible refine wpList_alloc_row (o := ⟨some 8, _, _, _, _, _⟩) rfl _ rfl zeroA zero_ac ?_; intro w1 za_1 s1 g1; have k1 : Below w.heap.size w w1 := grown_below g1 (Nat.le_refl _) (by simp); have B1 : Below w.heap.size w w1 := k1)
              | (with_reducible refine wpList_alloc_row (o := ⟨some 9, _, _, _, _, _⟩) rfl _ rfl zeroLO zero_lo ?_; intro w2 zo_2 s2 g2; have k2 : Below w1.heap.size w1 w2 := grown_below g2 (Nat.le_refl _) (by simp); have B2 := B1.trans (k2.mono B1.size); have za_2 := za_1.on k2; clear za_1)
              | ((with_reducible refine wpList_at ⟨none, .store _ (.tmp 8) _, _, _, _, _⟩ ?_); refine wpList_store_all rfl _ _ _ rfl (w.heap.size) rfl _ _ za_2 (noAc.cs) rfl (noAc.cs_one) rfl (by kernel_rfl) ?_; intro w3 za_3 g3; have zo_3 := zo_2.kept g3 (by simp; omega); have B3 := below_kept B2 g3 B2.size (by rintro q hq; cases hq; omega); have sz3 := g3.size; clear zo_2)
              | ((with_reducible refine wpList_at ⟨none, .store _ (.tmp 9) _, _, _, _, _⟩ ?_); refine wpList_store_all rfl _ _ _ rfl (w1.heap.size) rfl _ _ zo_3 ((⟨0, 1⟩ : RtO).cs) rfl ((⟨0, 1⟩ : RtO).cs_one) rfl (by kernel_rfl) ?_; intro w4 zo_4 g4; have za_4 := za_3.kept g4 (by simp; omega); have B4 := below_kept B3 g4 B3.size (by rintro q hq; cases hq; omega); have sz4 := g4.size; clear za_3))
            exact bodyPost_ret (results_cells2 Try.results13 _ _ _ _ _ _ rfl rfl (load_ac (a := noAc) za_4) (load_lo (a := ⟨0, 1⟩) zo_4)) rfl ⟨rfl, B4⟩
          · by_cases h5 : bits < target
            · rw [decide_eq_false (p := target ≤ bits) (by omega), Bool.and_false, if_neg (by decide)]
              go_enter Try.func13, Try.ntmps13
              go_wp2_with (first
                | (with_reducible refine wpList_alloc_row (o := ⟨some 8, _, _, _, _, _⟩) rfl _ rfl zeroA zero_ac ?_; intro w1 za_1 s1 g1; have k1 : Below w.heap.size w w1 := grown_below g1 (Nat.le_refl _) (by simp); have B1 : Below w.heap.size w w1 := k1)
                | (with_reducible refine wpList_alloc_row (o := ⟨some 9, _, _, _, _, _⟩) rfl _ rfl zeroLO zero_lo ?_; intro w2 zo_2 s2 g2; have k2 : Below w1.heap.size w1 w2 := grown_below g2 (Nat.le_refl _) (by simp); have B2 := B1.trans (k2.mono B1.size); have za_2 := za_1.on k2; clear za_1)
                | ((with_reducible refine wpList_at ⟨none, .store _ (.tmp 8) _, _, _, _, _⟩ ?_); refine wpList_store_all rfl _ _ _ rfl (w.heap.size) rfl _ _ za_2 (noAc.cs) rfl (noAc.cs_one) rfl (by kernel_rfl) ?_; intro w3 za_3 g3; have zo_3 := zo_2.kept g3 (by simp; omega); have B3 := below_kept B2 g3 B2.size (by rintro q hq; cases hq; omega); have sz3 := g3.size; clear zo_2)
                | ((with_reducible refine wpList_at ⟨none, .store _ (.tmp 9) _, _, _, _, _⟩ ?_); refine wpList_store_all rfl _ _ _ rfl (w1.heap.size) rfl _ _ zo_3 ((⟨0, 1⟩ : RtO).cs) rfl ((⟨0, 1⟩ : RtO).cs_one) rfl (by kernel_rfl) ?_; intro w4 zo_4 g4; have za_4 := za_3.kept g4 (by simp; omega); have B4 := below_kept B3 g4 B3.size (by rintro q hq; cases hq; omega); have sz4 := g4.size; clear za_3))
              exact bodyPost_ret (results_cells2 Try.results13 _ _ _ _ _ _ rfl rfl (load_ac (a := noAc) za_4) (load_lo (a := ⟨0, 1⟩) zo_4)) rfl ⟨rfl, B4⟩
            · rw [decide_eq_true (p := 0 ≤ target) (by omega), decide_eq_true (p := target ≤ bits) (by omega), if_pos (by decide)]
              obtain ⟨nb, rfl⟩ : ∃ nb : Nat, bits = (nb : Int) := ⟨bits.toNat, by omega⟩
              obtain ⟨tg, rfl⟩ : ∃ tg : Nat, target = (tg : Int) := ⟨target.toNat, by omega⟩
              rw [Int.toNat_natCast, Int.toNat_natCast, ← rf_raise]
              have HLV := fun g W h => Lib.hid (craiseTo_any g w.heap.size bank (rtS0 (rxs l)) (rtS0_ok _) nb tg (by omega) (by omega) W h)
              generalize rfRaise bank nb tg (rtS0 (rxs l)) = FL at *
              obtain ⟨sv, nv, ft⟩ := FL
              simp only at *
              generalize (if ft = true then (12 : Int) else 0) = X at *
              go_enter Try.func13, Try.ntmps13
              go_wp2_with (first
                | (with_reducible refine wpList_alloc_row (o := ⟨some 8, _, _, _, _, _⟩) rfl _ rfl zeroA zero_ac ?_; intro w1 za_1 s1 g1; have k1 : Below w.heap.size w w1 := grown_below g1 (Nat.le_refl _) (by simp); have B1 : Below w.heap.size w w1 := k1)
                | (with_reducible refine wpList_alloc_row (o := ⟨some 9, _, _, _, _, _⟩) rfl _ rfl zeroLO zero_lo ?_; intro w2 zo_2 s2 g2; have k2 : Below w1.heap.size w1 w2 := grown_below g2 (Nat.le_refl _) (by simp); have B2 := B1.trans (k2.mono B1.size); have za_2 := za_1.on k2; clear za_1)
                | ((with_reducible refine wpList_at ⟨some 41, _, _, _, _, _⟩ ?_); refine wpList_box_row rfl _ _ rfl ((⟨A, n, d, 0, noAc, false⟩ : Cu).cs) rfl ?_; intro w3 rc3 s3 g3; have k3 : Below w2.heap.size w2 w3 := grown_below g3 (Nat.le_refl _) (by simp); have B3 := B2.trans (k3.mono B2.size); have za_3 := za_2.on k3; have zo_3 := zo_2.on k3; clear za_2 zo_2; have cu_3 : CuOK w3 w2.heap.size w.heap.size (rtS0 (rxs l)) := ⟨l, A, n, d, 0, rfl, Nat.zero_le _, hn, by omega, rc3, hr.below (Below.mono B3 (Nat.le_refl _))⟩))
              refine ((HLV w2.heap.size _ cu_3).out).mono ?_
              rintro e w4 ⟨rfl, cu_4, g4⟩
              have sz4 := g4.size
              have za_4 := za_3.kept g4 (by simp; omega)
              have zo_4 := zo_3.kept g4 (by simp; omega)
              have B4 := below_kept B3 g4 B3.size (by rintro q hq; cases hq; omega)
              go_wp2_with fail
              refine (ctold_any w2.heap.size w.heap.size sv (nv : Int) X _ cu_4).mono ?_
              rintro e w5 ⟨rfl, h5⟩
              have B5 := B4.trans (h5.mono B4.size)
              have za_5 := za_4.on h5
              have zo_5 := zo_4.on h5
              have cu_5 := cu_4.on h5
              clear za_4 zo_4 cu_4
              go_wp2_with (first
                | ((with_reducible refine wpList_at ⟨none, .store _ (.tmp 8) _, _, _, _, _⟩ ?_); refine wpList_store_all rfl _ _ _ rfl (w.heap.size) rfl _ _ za_5 ((_ : DvA).cs) rfl (DvA.cs_one _) rfl (by kernel_rfl) ?_; intro w6 za_6 g6; have zo_6 := zo_5.kept g6 (by simp; omega); have cu_6 := cu_5.kept g6 (by omega) (by omega); have B6 := below_kept B5 g6 B5.size (by rintro q hq; cases hq; omega); have sz6 := g6.size; clear zo_5 cu_5)
                | ((with_reducible refine wpList_at ⟨none, .store _ (.tmp 9) _, _, _, _, _⟩ ?_); refine wpList_store_all rfl _ _ _ rfl (w1.heap.size) rfl _ _ zo_6 ((_ : RtO).cs) rfl (RtO.cs_one _) rfl (by kernel_rfl) ?_; intro w7 zo_7 g7; have za_7 := za_6.kept g7 (by simp; omega); have cu_7 := cu_6.kept g7 (by omega) (by omega); have B7 := below_kept B6 g7 B6.size (by rintro q hq; cases hq; omega); have sz7 := g7.size; clear za_6 cu_6))
              exact bodyPost_ret (results_cells2 Try.results13 _ _ _ _ _ _ rfl rfl (load_ac za_7) (load_lo zo_7)) rfl ⟨rfl, B7⟩
end Go.Proofs.Ytfcbcclcmgheeaa
