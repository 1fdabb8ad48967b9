/-
  What ratchet's level, Level and Raise return: contracts by walks. Condition: the log's length.
-/
import Derived.Test.YtfcbcclcmgheeaaRtD
set_option linter.unusedSimpArgs false
set_option linter.unusedVariables false
namespace Go.Proofs.Ytfcbcclcmgheeaa
open Go.RowKit

theorem box1_row (w : World) (k : Int) (e : TypeId) : Row (w.alloc (.cells #[.int .i64 k] e)) w.heap.size e (kvs [k]) := row_alloc w e [.int .i64 k]
theorem box2_row (w : World) (k m : Int) (e : TypeId) : Row (w.alloc (.cells #[.int .i64 k, .int .i64 m] e)) w.heap.size e (kvs [k, m]) := row_alloc w e [.int .i64 k, .int .i64 m]
set_option maxRecDepth 100000 in
set_option maxHeartbeats 4000000 in
theorem rlevel11_any (g B : Nat) (bank : Int) (s : RtS) (hs : s.OK) (bits : Nat) (hb : bits ≤ 1000) (w : World) (hp : RpOK w g B bank s) :
    Calls Try.prog 21 #[.pointer (some ⟨g, 0, none⟩), .int .i64 (bits : Int)] w (GivesP g B bank (rtcLev bank bits s).1 (.int .i64 ((rtcLev bank bits s).2 : Nat)) w) := by
  have HW := fun (s : RtS) (hs : s.OK) (limit : Nat) (hl : limit ≤ 1000) (k : Int) (hk : k = 1 ∨ k = 2) (Kb : Nat) (Kt : TypeId) (hKg : Kb ≠ g) (W : World) (hK : Row W Kb Kt (kvs [k])) (hp : RpOK W g B bank s) => Lib.hid (rwalk_any g B bank s hs 0 limit hl (by omega) [k] (by simpa using hk) (by simp) Kb Kt 1 hKg W hK hp)
  have hgl := hp.lt
  have h2 : (rtWalk bank [1] 0 bits s).2 ≤ bits := by have := (rtWalk_le (bank := bank) (ks := [1]) (r := bits) (b := 0) (s := s)).2; omega
  have h1 : (rtWalk bank [1] 0 bits s).1.OK := rtWalk_ok (by decide) hs
  have HA := HW s hs bits hb 1 (.inl rfl)
  have HB := HW (rtWalk bank [1] 0 bits s).1 h1 (rtWalk bank [1] 0 bits s).2 (by omega) 2 (.inr rfl)
  unfold rtcLev
  rw [Nat.sub_zero] at HA HB
  generalize rtWalk bank [1] 0 bits s = FA at *
  obtain ⟨sA, n⟩ := FA
  simp only at *
  generalize rtWalk bank [2] 0 n sA = FB at *
  clear HW hs h1
  go_enter Try.func21, Try.ntmps21
  go_wp2_with fail
  have b1 : Below w.heap.size w (w.alloc (.cells #[.int .i64 1] 3)) := (Below.refl _ _).alloc (Nat.le_refl _) _
  refine ((HA w.heap.size 3 (by omega) _ (box1_row w 1 _) (hp.on b1)).out).mono ?_
  rintro e w2 ⟨rfl, p2, g2⟩
  have hs2 := g2.size
  have hs1 := b1.size
  have G2 := grown_trans (below_grownBy b1 (some g)) g2
  have hg2 := p2.lt
  have hw2 : g < w2.heap.size := p2.lt
  go_wp2_with fail
  have b3 : Below w2.heap.size w2 (w2.alloc (.cells #[.int .i64 2] 3)) := (Below.refl _ _).alloc (Nat.le_refl _) _
  refine ((HB w2.heap.size 3 (by omega) _ (box1_row w2 2 _) (p2.on b3)).out).mono ?_
  rintro e w4 ⟨rfl, p4, g4⟩
  have G4 := grown_trans (grown_trans G2 (below_grownBy b3 (some g))) g4
  go_wp2_with fail
  go_ret
  exact ⟨rfl, p4, G4⟩
set_option maxRecDepth 100000 in
set_option maxHeartbeats 4000000 in
theorem rLevel_any (bank bits : Int) (A : Option Addr) (n d : Nat) (l : List DvR) (w : World) (hnd : n ≤ d) (hr : Reads w w.heap.size 2 A n (rrs l)) :
    Calls Try.prog 10 #[.int .i64 bank, .int .i64 bits, .slice A n d] w (GivesS (rtLvA bank bits (rxs l)) w) := by
  have HEX := fun W => Lib.hid (rexists11_any bank bits W)
  unfold rtLvA
  cases hin : rtIn bank bits with
  | false =>
    rw [if_neg (by decide)]
    rw [hin] at HEX
    go_enter Try.func10, Try.ntmps10
    go_wp2_with (first
      | (with_reducible refine wpList_alloc_row (o := ⟨some 6, _, _, _, _, _⟩) rfl _ rfl zeroA zero_ac ?_; intro w1 za_1 s1 g1; have k1 : Below w.heap.size w w1 := grown_below g1 (Nat.le_refl _) (by simp); have B1 : Below w.heap.size w w1 := k1)
      | (with_reducible refine wpList_alloc_row (o := ⟨some 7, _, _, _, _, _⟩) rfl _ rfl zeroLO zero_lo ?_; intro w2 zo_2 s2 g2; have k2 : Below w1.heap.size w1 w2 := grown_below g2 (Nat.le_refl _) (by simp); have B2 := B1.trans (k2.mono B1.size); have za_2 := za_1.on k2; clear za_1)
      | (with_reducible refine wpList_alloc_row (o := ⟨some 9, _, _, _, _, _⟩) rfl _ rfl zeroRP zero_rp ?_; intro w3 r3 s3 g3)
      | ((with_reducible refine wpList_at ⟨none, .store _ (.tmp 9) _, _, _, _, _⟩ ?_); refine wpList_store_all rfl _ _ _ rfl w2.heap.size rfl _ _ r3 (rpCs bank A n d noAc) rfl (rpCs_one _ _ _ _ _) rfl (by kernel_rfl) ?_; intro w4 rq4 g4; have k4 : Below w2.heap.size w2 w4 := below_kept (grown_below g3 (Nat.le_refl _) (by simp)) g4 (Nat.le_of_lt s3) (by rintro q hq; cases hq; exact Nat.le_refl _); have B4 := B2.trans (k4.mono B2.size); have za_4 := za_2.on k4; have zo_4 := zo_2.on k4; clear za_2 zo_2; clear r3 g3 g4; have rp_4 : RpOK w4 w2.heap.size w.heap.size bank (rtS0 (rxs l)) := ⟨l, A, n, d, rfl, hnd, by omega, rq4, hr.below (Below.mono B4 (Nat.le_refl _))⟩))
    have hrg := rp_4.lt
    refine ((HEX _).out).mono ?_
    rintro e _ ⟨rfl, rfl⟩
    have HEND := fun s hs o W h => Lib.hid (rend_any w2.heap.size w.heap.size bank s hs o W h)
    go_wp2_with fail
    refine ((HEND _ (rtS0_ok _) ⟨0, 1⟩ _ rp_4).out).mono ?_
    rintro e w5 ⟨rfl, h5⟩
    have B5 := B4.trans (h5.mono B4.size)
    have za_5 := za_4.on h5
    have zo_5 := zo_4.on h5
    have rp_5 := rp_4.on h5
    clear za_4 zo_4 rp_4
    go_wp2_with (first
      | ((with_reducible refine wpList_at ⟨none, .store _ (.tmp 6) _, _, _, _, _⟩ ?_); refine wpList_store_all rfl _ _ _ rfl (w.heap.size) rfl _ _ za_5 ((_ : DvA).cs) rfl (DvA.cs_one _) rfl (by kernel_rfl) ?_; intro w6 za_6 g6; have zo_6 := zo_5.kept g6 (by simp; omega); have rp_6 := rp_5.kept g6 (by omega) (by omega); have B6 := below_kept B5 g6 B5.size (by rintro q hq; cases hq; omega); have sz6 := g6.size; clear zo_5 rp_5)
      | ((with_reducible refine wpList_at ⟨none, .store _ (.tmp 7) _, _, _, _, _⟩ ?_); refine wpList_store_all rfl _ _ _ rfl (w1.heap.size) rfl _ _ zo_6 ((_ : RtO).cs) rfl (RtO.cs_one _) rfl (by kernel_rfl) ?_; intro w7 zo_7 g7; have za_7 := za_6.kept g7 (by simp; omega); have rp_7 := rp_6.kept g7 (by omega) (by omega); have B7 := below_kept B6 g7 B6.size (by rintro q hq; cases hq; omega); have sz7 := g7.size; clear za_6 rp_6))
    exact bodyPost_ret (results_cells2 Try.results10 _ _ _ _ _ _ rfl rfl (load_ac za_7) (load_lo zo_7)) rfl ⟨rfl, B7⟩
  | true =>
    rw [if_pos rfl]
    rw [hin] at HEX
    have hbits : 0 ≤ bits ∧ bits ≤ 16 := by unfold rtIn at hin; simp at hin; omega
    obtain ⟨nb, rfl⟩ : ∃ nb : Nat, bits = (nb : Int) := ⟨bits.toNat, by omega⟩
    rw [Int.toNat_natCast, ← rtc_level]
    have HLV := fun g W h => Lib.hid (rlevel11_any g w.heap.size bank (rtS0 (rxs l)) (rtS0_ok _) nb (by omega) W h)
    have HLOK : (rtcLev bank nb (rtS0 (rxs l))).1.OK := rtcLev_ok (rtS0_ok _)
    generalize rtcLev bank nb (rtS0 (rxs l)) = FL at *
    obtain ⟨sv, lv⟩ := FL
    simp only at *
    clear hin
    go_enter Try.func10, Try.ntmps10
    go_wp2_with (first
      | (with_reducible refine wpList_alloc_row (o := ⟨some 6, _, _, _, _, _⟩) rfl _ rfl zeroA zero_ac ?_; intro w1 za_1 s1 g1; have k1 : Below w.heap.size w w1 := grown_below g1 (Nat.le_refl _) (by simp); have B1 : Below w.heap.size w w1 := k1)
      | (with_reducible refine wpList_alloc_row (o := ⟨some 7, _, _, _, _, _⟩) rfl _ rfl zeroLO zero_lo ?_; intro w2 zo_2 s2 g2; have k2 : Below w1.heap.size w1 w2 := grown_below g2 (Nat.le_refl _) (by simp); have B2 := B1.trans (k2.mono B1.size); have za_2 := za_1.on k2; clear za_1)
      | (with_reducible refine wpList_alloc_row (o := ⟨some 9, _, _, _, _, _⟩) rfl _ rfl zeroRP zero_rp ?_; intro w3 r3 s3 g3)
      | ((with_reducible refine wpList_at ⟨none, .store _ (.tmp 9) _, _, _, _, _⟩ ?_); refine wpList_store_all rfl _ _ _ rfl w2.heap.size rfl _ _ r3 (rpCs bank A n d noAc) rfl (rpCs_one _ _ _ _ _) rfl (by kernel_rfl) ?_; intro w4 rq4 g4; have k4 : Below w2.heap.size w2 w4 := below_kept (grown_below g3 (Nat.le_refl _) (by simp)) g4 (Nat.le_of_lt s3) (by rintro q hq; cases hq; exact Nat.le_refl _); have B4 := B2.trans (k4.mono B2.size); have za_4 := za_2.on k4; have zo_4 := zo_2.on k4; clear za_2 zo_2; clear r3 g3 g4; have rp_4 : RpOK w4 w2.heap.size w.heap.size bank (rtS0 (rxs l)) := ⟨l, A, n, d, rfl, hnd, by omega, rq4, hr.below (Below.mono B4 (Nat.le_refl _))⟩))
    have hrg := rp_4.lt
    refine ((HEX _).out).mono ?_
    rintro e _ ⟨rfl, rfl⟩
    have HEND := fun s hs o W h => Lib.hid (rend_any w2.heap.size w.heap.size bank s hs o W h)
    go_wp2_with fail
    refine ((HLV w2.heap.size _ rp_4).out).mono ?_
    rintro e w5 ⟨rfl, rp_5, g5⟩
    have sz5 := g5.size
    have za_5 := za_4.kept g5 (by simp; omega)
    have zo_5 := zo_4.kept g5 (by simp; omega)
    have B5 := below_kept B4 g5 B4.size (by rintro q hq; cases hq; omega)
    go_wp2_with fail
    refine ((HEND _ HLOK ⟨(lv : Nat), 0⟩ _ rp_5).out).mono ?_
    rintro e w6 ⟨rfl, h6⟩
    have B6 := B5.trans (h6.mono B5.size)
    have za_6 := za_5.on h6
    have zo_6 := zo_5.on h6
    have rp_6 := rp_5.on h6
    clear za_5 zo_5 rp_5
    go_wp2_with (first
      | ((with_reducible refine wpList_at ⟨none, .store _ (.tmp 6) _, _, _, _, _⟩ ?_); refine wpList_store_all rfl _ _ _ rfl (w.heap.size) rfl _ _ za_6 ((_ : DvA).cs) rfl (DvA.cs_one _) rfl (by kernel_rfl) ?_; intro w7 za_7 g7; have zo_7 := zo_6.kept g7 (by simp; omega); have rp_7 := rp_6.kept g7 (by omega) (by omega); have B7 := below_kept B6 g7 B6.size (by rintro q hq; cases hq; omega); have sz7 := g7.size; clear zo_6 rp_6)
      | ((with_reducible refine wpList_at ⟨none, .store _ (.tmp 7) _, _, _, _, _⟩ ?_); refine wpList_store_all rfl _ _ _ rfl (w1.heap.size) rfl _ _ zo_7 ((_ : RtO).cs) rfl (RtO.cs_one _) rfl (by kernel_rfl) ?_; intro w8 zo_8 g8; have za_8 := za_7.kept g8 (by simp; omega); have rp_8 := rp_7.kept g8 (by omega) (by omega); have B8 := below_kept B7 g8 B7.size (by rintro q hq; cases hq; omega); have sz8 := g8.size; clear za_7 rp_7))
    exact bodyPost_ret (results_cells2 Try.results10 _ _ _ _ _ _ rfl rfl (load_ac za_8) (load_lo zo_8)) rfl ⟨rfl, B8⟩
set_option maxRecDepth 100000 in
set_option maxHeartbeats 4000000 in
theorem rRaise_bad (bank bits target : Int) (hbad : (rtIn bank bits && (decide (0 ≤ target) && decide (target ≤ bits))) = false) (A : Option Addr) (n d : Nat) (l : List DvR) (w : World) (hnd : n ≤ d) (hr : Reads w w.heap.size 2 A n (rrs l)) :
    Calls Try.prog 12 #[.int .i64 bank, .int .i64 bits, .int .i64 target, .slice A n d] w (GivesS rtErr w) := by
  have HEX := fun W => Lib.hid (rexists11_any bank bits W)
  cases hin : rtIn bank bits with
  | false =>
    rw [hin] at HEX
    go_enter Try.func12, Try.ntmps12
    go_wp2_with (first
      | (with_reducible refine wpList_alloc_row (o := ⟨some 8, _, _, _, _, _⟩) rfl _ rfl zeroA zero_ac ?_; intro w1 za_1 s1 g1; have k1 : Below w.heap.size w w1 := grown_below g1 (Nat.le_refl _) (by simp); have B1 : Below w.heap.size w w1 := k1)
      | (with_reducible refine wpList_alloc_row (o := ⟨some 9, _, _, _, _, _⟩) rfl _ rfl zeroLO zero_lo ?_; intro w2 zo_2 s2 g2; have k2 : Below w1.heap.size w1 w2 := grown_below g2 (Nat.le_refl _) (by simp); have B2 := B1.trans (k2.mono B1.size); have za_2 := za_1.on k2; clear za_1)
      | (with_reducible refine wpList_alloc_row (o := ⟨some 11, _, _, _, _, _⟩) rfl _ rfl zeroRP zero_rp ?_; intro w3 r3 s3 g3)
      | ((with_reducible refine wpList_at ⟨none, .store _ (.tmp 11) _, _, _, _, _⟩ ?_); refine wpList_store_all rfl _ _ _ rfl w2.heap.size rfl _ _ r3 (rpCs bank A n d noAc) rfl (rpCs_one _ _ _ _ _) rfl (by kernel_rfl) ?_; intro w4 rq4 g4; have k4 : Below w2.heap.size w2 w4 := below_kept (grown_below g3 (Nat.le_refl _) (by simp)) g4 (Nat.le_of_lt s3) (by rintro q hq; cases hq; exact Nat.le_refl _); have B4 := B2.trans (k4.mono B2.size); have za_4 := za_2.on k4; have zo_4 := zo_2.on k4; clear za_2 zo_2; clear r3 g3 g4; have rp_4 : RpOK w4 w2.heap.size w.heap.size bank (rtS0 (rxs l)) := ⟨l, A, n, d, rfl, hnd, by omega, rq4, hr.below (Below.mono B4 (Nat.le_refl _))⟩))
    have hrg := rp_4.lt
    refine ((HEX _).out).mono ?_
    rintro e _ ⟨rfl, rfl⟩
    have HEND := fun s hs o W h => Lib.hid (rend_any w2.heap.size w.heap.size bank s hs o W h)
    go_wp2_with fail
    refine ((HEND _ (rtS0_ok _) ⟨0, 1⟩ _ rp_4).out).mono ?_
    rintro e w5 ⟨rfl, h5⟩
    have B5 := B4.trans (h5.mono B4.size)
    have za_5 := za_4.on h5
    have zo_5 := zo_4.on h5
    have rp_5 := rp_4.on h5
    clear za_4 zo_4 rp_4
    go_wp2_with (first
      | ((with_reducible refine wpList_at ⟨none, .store _ (.tmp 8) _, _, _, _, _⟩ ?_); refine wpList_store_all rfl _ _ _ rfl (w.heap.size) rfl _ _ za_5 ((_ : DvA).cs) rfl (DvA.cs_one _) rfl (by kernel_rfl) ?_; intro w6 za_6 g6; have zo_6 := zo_5.kept g6 (by simp; omega); have rp_6 := rp_5.kept g6 (by omega) (by omega); have B6 := below_kept B5 g6 B5.size (by rintro q hq; cases hq; omega); have sz6 := g6.size; clear zo_5 rp_5)
      | ((with_reducible refine wpList_at ⟨none, .store _ (.tmp 9) _, _, _, _, _⟩ ?_); refine wpList_store_all rfl _ _ _ rfl (w1.heap.size) rfl _ _ zo_6 ((_ : RtO).cs) rfl (RtO.cs_one _) rfl (by kernel_rfl) ?_; intro w7 zo_7 g7; have za_7 := za_6.kept g7 (by simp; omega); have rp_7 := rp_6.kept g7 (by omega) (by omega); have B7 := below_kept B6 g7 B6.size (by rintro q hq; cases hq; omega); have sz7 := g7.size; clear za_6 rp_6))
    exact bodyPost_ret (results_cells2 Try.results12 _ _ _ _ _ _ rfl rfl (load_ac za_7) (load_lo zo_7)) rfl ⟨rfl, B7⟩
  | true =>
    rw [hin] at HEX hbad
    by_cases h0 : target < 0
    · clear hbad
      go_enter Try.func12, Try.ntmps12
      go_wp2_with (first
        | (with_reducible refine wpList_alloc_row (o := ⟨some 8, _, _, _, _, _⟩) rfl _ rfl zeroA zero_ac ?_; intro w1 za_1 s1 g1; have k1 : Below w.heap.size w w1 := grown_below g1 (Nat.le_refl _) (by simp); have B1 : Below w.heap.size w w1 := k1)
        | (with_reducible refine wpList_alloc_row (o := ⟨some 9, _, _, _, _, _⟩) rfl _ rfl zeroLO zero_lo ?_; intro w2 zo_2 s2 g2; have k2 : Below w1.heap.size w1 w2 := grown_below g2 (Nat.le_refl _) (by simp); have B2 := B1.trans (k2.mono B1.size); have za_2 := za_1.on k2; clear za_1)
        | (with_reducible refine wpList_alloc_row (o := ⟨some 11, _, _, _, _, _⟩) rfl _ rfl zeroRP zero_rp ?_; intro w3 r3 s3 g3)
        | ((with_reducible refine wpList_at ⟨none, .store _ (.tmp 11) _, _, _, _, _⟩ ?_); refine wpList_store_all rfl _ _ _ rfl w2.heap.size rfl _ _ r3 (rpCs bank A n d noAc) rfl (rpCs_one _ _ _ _ _) rfl (by kernel_rfl) ?_; intro w4 rq4 g4; have k4 : Below w2.heap.size w2 w4 := below_kept (grown_below g3 (Nat.le_refl _) (by simp)) g4 (Nat.le_of_lt s3) (by rintro q hq; cases hq; exact Nat.le_refl _); have B4 := B2.trans (k4.mono B2.size); have za_4 := za_2.on k4; have zo_4 := zo_2.on k4; clear za_2 zo_2; clear r3 g3 g4; have rp_4 : RpOK w4 w2.heap.size w.heap.size bank (rtS0 (rxs l)) := ⟨l, A, n, d, rfl, hnd, by omega, rq4, hr.below (Below.mono B4 (Nat.le_refl _))⟩))
      have hrg := rp_4.lt
      refine ((HEX _).out).mono ?_
      rintro e _ ⟨rfl, rfl⟩
      have HEND := fun s hs o W h => Lib.hid (rend_any w2.heap.size w.heap.size bank s hs o W h)
      go_wp2_with fail
      refine ((HEND _ (rtS0_ok _) ⟨0, 1⟩ _ rp_4).out).mono ?_
      rintro e w5 ⟨rfl, h5⟩
      have B5 := B4.trans (h5.mono B4.size)
      have za_5 := za_4.on h5
      have zo_5 := zo_4.on h5
      have rp_5 := rp_4.on h5
      clear za_4 zo_4 rp_4
      go_wp2_with (first
        | ((with_reducible refine wpList_at ⟨none, .store _ (.tmp 8) _, _, _, _, _⟩ ?_); refine wpList_store_all rfl _ _ _ rfl (w.heap.size) rfl _ _ za_5 ((_ : DvA).cs) rfl (DvA.cs_one _) rfl (by kernel_rfl) ?_; intro w6 za_6 g6; have zo_6 := zo_5.kept g6 (by simp; omega); have rp_6 := rp_5.kept g6 (by omega) (by omega); have B6 := below_kept B5 g6 B5.size (by rintro q hq; cases hq; omega); have sz6 := g6.size; clear zo_5 rp_5)
        | ((with_reducible refine wpList_at ⟨none, .store _ (.tmp 9) _, _, _, _, _⟩ ?_); refine wpList_store_all rfl _ _ _ rfl (w1.heap.size) rfl _ _ zo_6 ((_ : RtO).cs) rfl (RtO.cs_one _) rfl (by kernel_rfl) ?_; intro w7 zo_7 g7; have za_7 := za_6.kept g7 (by simp; omega); have rp_7 := rp_6.kept g7 (by omega) (by omega); have B7 := below_kept B6 g7 B6.size (by rintro q hq; cases hq; omega); have sz7 := g7.size; clear za_6 rp_6))
      exact bodyPost_ret (results_cells2 Try.results12 _ _ _ _ _ _ rfl rfl (load_ac za_7) (load_lo zo_7)) rfl ⟨rfl, B7⟩
    · have h1 : bits < target := by
        rw [decide_eq_true (p := 0 ≤ target) (by omega), Bool.true_and, Bool.true_and] at hbad
        have := of_decide_eq_false hbad
        omega
      clear hbad
      go_enter Try.func12, Try.ntmps12
      go_wp2_with (first
        | (with_reducible refine wpList_alloc_row (o := ⟨some 8, _, _, _, _, _⟩) rfl _ rfl zeroA zero_ac ?_; intro w1 za_1 s1 g1; have k1 : Below w.heap.size w w1 := grown_below g1 (Nat.le_refl _) (by simp); have B1 : Below w.heap.size w w1 := k1)
        | (with_reducible refine wpList_alloc_row (o := ⟨some 9, _, _, _, _, _⟩) rfl _ rfl zeroLO zero_lo ?_; intro w2 zo_2 s2 g2; have k2 : Below w1.heap.size w1 w2 := grown_below g2 (Nat.le_refl _) (by simp); have B2 := B1.trans (k2.mono B1.size); have za_2 := za_1.on k2; clear za_1)
        | (with_reducible refine wpList_alloc_row (o := ⟨some 11, _, _, _, _, _⟩) rfl _ rfl zeroRP zero_rp ?_; intro w3 r3 s3 g3)
        | ((with_reducible refine wpList_at ⟨none, .store _ (.tmp 11) _, _, _, _, _⟩ ?_); refine wpList_store_all rfl _ _ _ rfl w2.heap.size rfl _ _ r3 (rpCs bank A n d noAc) rfl (rpCs_one _ _ _ _ _) rfl (by kernel_rfl) ?_; intro w4 rq4 g4; have k4 : Below w2.heap.size w2 w4 := below_kept (grown_below g3 (Nat.le_refl _) (by simp)) g4 (Nat.le_of_lt s3) (by rintro q hq; cases hq; exact Nat.le_refl _); have B4 := B2.trans (k4.mono B2.size); have za_4 := za_2.on k4; have zo_4 := zo_2.on k4; clear za_2 zo_2; clear r3 g3 g4; have rp_4 : RpOK w4 w2.heap.size w.heap.size bank (rtS0 (rxs l)) := ⟨l, A, n, d, rfl, hnd, by omega, rq4, hr.below (Below.mono B4 (Nat.le_refl _))⟩))
      have hrg := rp_4.lt
      refine ((HEX _).out).mono ?_
      rintro e _ ⟨rfl, rfl⟩
      have HEND := fun s hs o W h => Lib.hid (rend_any w2.heap.size w.heap.size bank s hs o W h)
      go_wp2_with fail
      refine ((HEND _ (rtS0_ok _) ⟨0, 1⟩ _ rp_4).out).mono ?_
      rintro e w5 ⟨rfl, h5⟩
      have B5 := B4.trans (h5.mono B4.size)
      have za_5 := za_4.on h5
      have zo_5 := zo_4.on h5
      have rp_5 := rp_4.on h5
      clear za_4 zo_4 rp_4
      go_wp2_with (first
        | ((with_reducible refine wpList_at ⟨none, .store _ (.tmp 8) _, _, _, _, _⟩ ?_); refine wpList_store_all rfl _ _ _ rfl (w.heap.size) rfl _ _ za_5 ((_ : DvA).cs) rfl (DvA.cs_one _) rfl (by kernel_rfl) ?_; intro w6 za_6 g6; have zo_6 := zo_5.kept g6 (by simp; omega); have rp_6 := rp_5.kept g6 (by omega) (by omega); have B6 := below_kept B5 g6 B5.size (by rintro q hq; cases hq; omega); have sz6 := g6.size; clear zo_5 rp_5)
        | ((with_reducible refine wpList_at ⟨none, .store _ (.tmp 9) _, _, _, _, _⟩ ?_); refine wpList_store_all rfl _ _ _ rfl (w1.heap.size) rfl _ _ zo_6 ((_ : RtO).cs) rfl (RtO.cs_one _) rfl (by kernel_rfl) ?_; intro w7 zo_7 g7; have za_7 := za_6.kept g7 (by simp; omega); have rp_7 := rp_6.kept g7 (by omega) (by omega); have B7 := below_kept B6 g7 B6.size (by rintro q hq; cases hq; omega); have sz7 := g7.size; clear za_6 rp_6))
      exact bodyPost_ret (results_cells2 Try.results12 _ _ _ _ _ _ rfl rfl (load_ac za_7) (load_lo zo_7)) rfl ⟨rfl, B7⟩
set_option maxRecDepth 100000 in
set_option maxHeartbeats 4000000 in
theorem rRaise_any (bank bits target : Int) (A : Option Addr) (n d : Nat) (l : List DvR) (w : World) (hnd : n ≤ d) (hr : Reads w w.heap.size 2 A n (rrs l)) :
    Calls Try.prog 12 #[.int .i64 bank, .int .i64 bits, .int .i64 target, .slice A n d] w (GivesS (rtRsA bank bits target (rxs l)) w) := by
  have HEX := fun W => Lib.hid (rexists11_any bank bits W)
  unfold rtRsA
  cases hall : (rtIn bank bits && (decide (0 ≤ target) && decide (target ≤ bits))) with
  | false => rw [if_neg (by decide)]; exact rRaise_bad bank bits target hall A n d l w hnd hr
  | true =>
    rw [if_pos rfl]
    rw [Bool.and_eq_true, Bool.and_eq_true, decide_eq_true_eq, decide_eq_true_eq] at hall
    obtain ⟨hin, ht0, ht1⟩ := hall
    rw [hin] at HEX
    have hbits : 0 ≤ bits ∧ bits ≤ 16 := by unfold rtIn at hin; simp at hin; omega
    obtain ⟨nb, rfl⟩ : ∃ nb : Nat, bits = (nb : Int) := ⟨bits.toNat, by omega⟩
    obtain ⟨target, rfl⟩ : ∃ t : Nat, target = (t : Int) := ⟨target.toNat, by omega⟩
    rw [Int.toNat_natCast, Int.toNat_natCast, ← rtc_raise]
    have HLV := fun g W h => Lib.hid (rlevel11_any g w.heap.size bank (rtS0 (rxs l)) (rtS0_ok _) nb (by omega) W h)
    have HLOK : (rtcLev bank nb (rtS0 (rxs l))).1.OK := rtcLev_ok (rtS0_ok _)
    have hle := rtcLev_le (bank := bank) (bits := nb) (s := rtS0 (rxs l))
    unfold rtcUp
    generalize rtcLev bank nb (rtS0 (rxs l)) = FL at *
    obtain ⟨sv, lv⟩ := FL
    simp only at *
    have HWK := fun (g : Nat) (Kb : Nat) (Kt : TypeId) (hKg : Kb ≠ g) (W : World) (hK : Row W Kb Kt (kvs [2, 1])) (hp : RpOK W g w.heap.size bank sv) => Lib.hid (rwalk_any g w.heap.size bank sv HLOK lv target (by omega) (by omega) [2, 1] (by simp) (by simp) Kb Kt 2 hKg W hK hp)
    have HUOK : (rtWalk bank [2, 1] lv (target - lv) sv).1.OK := rtWalk_ok (by decide) HLOK
    have hul := (rtWalk_le (bank := bank) (ks := [2, 1]) (r := target - lv) (b := lv) (s := sv)).2
    generalize rtWalk bank [2, 1] lv (target - lv) sv = FU at *
    obtain ⟨su, nv⟩ := FU
    simp only at *
    obtain ⟨X, hX⟩ : ∃ X : Int, X = (if nv < target then 12 else 0) := ⟨_, rfl⟩
    rw [← hX]
    have HX := Lib.hid hX
    clear hX
    clear hin
    go_enter Try.func12, Try.ntmps12
    go_wp2_with (first
      | (with_reducible refine wpList_alloc_row (o := ⟨some 8, _, _, _, _, _⟩) rfl _ rfl zeroA zero_ac ?_; intro w1 za_1 s1 g1; have k1 : Below w.heap.size w w1 := grown_below g1 (Nat.le_refl _) (by simp); have B1 : Below w.heap.size w w1 := k1)
      | (with_reducible refine wpList_alloc_row (o := ⟨some 9, _, _, _, _, _⟩) rfl _ rfl zeroLO zero_lo ?_; intro w2 zo_2 s2 g2; have k2 : Below w1.heap.size w1 w2 := grown_below g2 (Nat.le_refl _) (by simp); have B2 := B1.trans (k2.mono B1.size); have za_2 := za_1.on k2; clear za_1)
      | (with_reducible refine wpList_alloc_row (o := ⟨some 11, _, _, _, _, _⟩) rfl _ rfl zeroRP zero_rp ?_; intro w3 r3 s3 g3)
      | ((with_reducible refine wpList_at ⟨none, .store _ (.tmp 11) _, _, _, _, _⟩ ?_); refine wpList_store_all rfl _ _ _ rfl w2.heap.size rfl _ _ r3 (rpCs bank A n d noAc) rfl (rpCs_one _ _ _ _ _) rfl (by kernel_rfl) ?_; intro w4 rq4 g4; have k4 : Below w2.heap.size w2 w4 := below_kept (grown_below g3 (Nat.le_refl _) (by simp)) g4 (Nat.le_of_lt s3) (by rintro q hq; cases hq; exact Nat.le_refl _); have B4 := B2.trans (k4.mono B2.size); have za_4 := za_2.on k4; have zo_4 := zo_2.on k4; clear za_2 zo_2; clear r3 g3 g4; have rp_4 : RpOK w4 w2.heap.size w.heap.size bank (rtS0 (rxs l)) := ⟨l, A, n, d, rfl, hnd, by omega, rq4, hr.below (Below.mono B4 (Nat.le_refl _))⟩))
    have hrg := rp_4.lt
    refine ((HEX _).out).mono ?_
    rintro e _ ⟨rfl, rfl⟩
    have HEND := fun s hs o W h => Lib.hid (rend_any w2.heap.size w.heap.size bank s hs o W h)
    go_wp2_with fail
    refine ((HLV w2.heap.size _ rp_4).out).mono ?_
    rintro e w5 ⟨rfl, rp_5, g5⟩
    have sz5 := g5.size
    have za_5 := za_4.kept g5 (by simp; omega)
    have zo_5 := zo_4.kept g5 (by simp; omega)
    have B5 := below_kept B4 g5 B4.size (by rintro q hq; cases hq; omega)
    go_wp2_with fail
    have bk1 : Below w5.heap.size w5 (w5.alloc (.cells #[.int .i64 2, .int .i64 1] 3)) := (Below.refl _ _).alloc (Nat.le_refl _) _
    have za_k := za_5.on bk1
    have zo_k := zo_5.on bk1
    have rp_k := rp_5.on bk1
    have Bk := B5.trans (bk1.mono B5.size)
    have sbk := bk1.size
    have lbk := rp_k.lt
    have hgk := rp_5.lt
    refine ((HWK w2.heap.size w5.heap.size 3 (by omega) _ (box2_row w5 2 1 _) rp_k).out).mono ?_
    rintro e w6 ⟨rfl, rp_6, g6⟩
    have sz6 := g6.size
    have za_6 := za_k.kept g6 (by simp; omega)
    have zo_6 := zo_k.kept g6 (by simp; omega)
    have B6 := below_kept Bk g6 Bk.size (by rintro q hq; cases hq; omega)
    by_cases hlt : nv < target
    · obtain rfl : X = 12 := by rw [HX.out, if_pos hlt]
      clear HX
      go_wp2_with fail
      have HEND := fun s hs o W h => Lib.hid (rend_any w2.heap.size w.heap.size bank s hs o W h)
      refine ((HEND _ HUOK ⟨(nv : Nat), 12⟩ _ rp_6).out).mono ?_
      rintro e w7 ⟨rfl, h7⟩
      have B7 := B6.trans (h7.mono B6.size)
      have za_7 := za_6.on h7
      have zo_7 := zo_6.on h7
      have rp_7 := rp_6.on h7
      clear za_6 zo_6 rp_6
      go_wp2_with (first
        | ((with_reducible refine wpList_at ⟨none, .store _ (.tmp 8) _, _, _, _, _⟩ ?_); refine wpList_store_all rfl _ _ _ rfl (w.heap.size) rfl _ _ za_7 ((_ : DvA).cs) rfl (DvA.cs_one _) rfl (by kernel_rfl) ?_; intro w8 za_8 g8; have zo_8 := zo_7.kept g8 (by simp; omega); have rp_8 := rp_7.kept g8 (by omega) (by omega); have B8 := below_kept B7 g8 B7.size (by rintro q hq; cases hq; omega); have sz8 := g8.size; clear zo_7 rp_7)
        | ((with_reducible refine wpList_at ⟨none, .store _ (.tmp 9) _, _, _, _, _⟩ ?_); refine wpList_store_all rfl _ _ _ rfl (w1.heap.size) rfl _ _ zo_8 ((_ : RtO).cs) rfl (RtO.cs_one _) rfl (by kernel_rfl) ?_; intro w9 zo_9 g9; have za_9 := za_8.kept g9 (by simp; omega); have rp_9 := rp_8.kept g9 (by omega) (by omega); have B9 := below_kept B8 g9 B8.size (by rintro q hq; cases hq; omega); have sz9 := g9.size; clear za_8 rp_8))
      exact bodyPost_ret (results_cells2 Try.results12 _ _ _ _ _ _ rfl rfl (load_ac za_9) (load_lo zo_9)) rfl ⟨rfl, B9⟩
    · obtain rfl : X = 0 := by rw [HX.out, if_neg hlt]
      clear HX
      go_wp2_with fail
      have HEND := fun s hs o W h => Lib.hid (rend_any w2.heap.size w.heap.size bank s hs o W h)
      refine ((HEND _ HUOK ⟨(nv : Nat), 0⟩ _ rp_6).out).mono ?_
      rintro e w10 ⟨rfl, h10⟩
      have B10 := B6.trans (h10.mono B6.size)
      have za_10 := za_6.on h10
      have zo_10 := zo_6.on h10
      have rp_10 := rp_6.on h10
      clear za_6 zo_6 rp_6
      go_wp2_with (first
        | ((with_reducible refine wpList_at ⟨none, .store _ (.tmp 8) _, _, _, _, _⟩ ?_); refine wpList_store_all rfl _ _ _ rfl (w.heap.size) rfl _ _ za_10 ((_ : DvA).cs) rfl (DvA.cs_one _) rfl (by kernel_rfl) ?_; intro w11 za_11 g11; have zo_11 := zo_10.kept g11 (by simp; omega); have rp_11 := rp_10.kept g11 (by omega) (by omega); have B11 := below_kept B10 g11 B10.size (by rintro q hq; cases hq; omega); have sz11 := g11.size; clear zo_10 rp_10)
        | ((with_reducible refine wpList_at ⟨none, .store _ (.tmp 9) _, _, _, _, _⟩ ?_); refine wpList_store_all rfl _ _ _ rfl (w1.heap.size) rfl _ _ zo_11 ((_ : RtO).cs) rfl (RtO.cs_one _) rfl (by kernel_rfl) ?_; intro w12 zo_12 g12; have za_12 := za_11.kept g12 (by simp; omega); have rp_12 := rp_11.kept g12 (by omega) (by omega); have B12 := below_kept B11 g12 B11.size (by rintro q hq; cases hq; omega); have sz12 := g12.size; clear za_11 rp_11))
      exact bodyPost_ret (results_cells2 Try.results12 _ _ _ _ _ _ rfl rfl (load_ac za_12) (load_lo zo_12)) rfl ⟨rfl, B12⟩
end Go.Proofs.Ytfcbcclcmgheeaa
