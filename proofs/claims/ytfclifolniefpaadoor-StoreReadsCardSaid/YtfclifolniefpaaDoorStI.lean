/-
  What store.Get returns: a contract by a walk. Conditions: the table of constants as laid; bounded lengths.
-/
import Derived.Test.YtfclifolniefpaaDoorStFH
set_option linter.unusedSimpArgs false
set_option linter.unusedVariables false
namespace Go.Proofs.YtfclifolniefpaaDoor
open Go.RowKit

/-- The area that counts. -/
def seD (x : StE) : StD := if x.a.n < x.b.n then x.b else x.a
theorem seD_of (rec : Int) (l : List ByteArray) : seD (stE rec l) = stD (stCur rec l) := by
  unfold seD stCur stNew stE
  by_cases h : (stA0 rec l).1 < (stA1 rec l).1
  · rw [if_pos (show (stD (stA0 rec l)).n < (stD (stA1 rec l)).n from h), if_pos (decide_eq_true h)]
  · rw [if_neg (show ¬ (stD (stA0 rec l)).n < (stD (stA1 rec l)).n from h), if_neg (by rw [decide_eq_false h]; decide)]
theorem stGet_in {rec : Int} {l : List ByteArray} (h : stIn rec = true) (hl : l.length < 16) : stGet rec l = (stRead rec l.length, noO, false) := by unfold stGet; rw [h, if_pos rfl, if_pos hl]
theorem stGet_out {rec : Int} {l : List ByteArray} (h : stIn rec = false) : stGet rec l = (noA, ⟨em, 0, 1⟩, true) := by unfold stGet; rw [h]; rfl
theorem stGet_all {rec : Int} {l : List ByteArray} (h : stIn rec = true) (hl : ¬ l.length < 16) : stGet rec l = (noA, stOut (stCur rec l), true) := by unfold stGet; rw [h, if_pos rfl, if_neg hl]
set_option maxRecDepth 100000 in
set_option maxHeartbeats 4000000 in
theorem sget_any (rec : Int) (A : Option Addr) (n c : Nat) (l : List StR) (w : World) (hK : Consts w) (hr : Reads w w.heap.size 2 A n (rcs l)) (hc : n ≤ c) (hn : n ≤ 1000) (hs : ∀ r ∈ l, r.s.size ≤ 400) :
    Calls Tryd.prog 19 #[.int .i64 rec, .slice A n c] w (GivesS (stGet rec (l.map StR.s)) w) := by
  have HX := fun W => Lib.hid (sexists_any rec W)
  have HLN := Lib.hid (hr.len_of (by decide) StR.cs_len)
  have HML : Hid ((l.map StR.s).length = n) := Lib.hid (by rw [List.length_map, HLN.out])
  cases hin : stIn rec with
  | false =>
    rw [hin] at HX
    have HE := Lib.hid (stGet_out (l := l.map StR.s) hin)
    generalize stGet rec (l.map StR.s) = R at *
    clear hin
    have HEN := fun W => Lib.hid (send_any ⟨em, 0, 1⟩ W)
    go_enter Tryd.func19, Tryd.ntmps19
    go_wp2_with (first
      | (with_reducible refine wpList_alloc_row (o := ⟨some 4, _, _, _, _, _⟩) rfl _ rfl zeroA zero_ac ?_; intro w1 z4_1 s1 g1; have k1 : Below w.heap.size w w1 := grown_below g1 (Nat.le_refl _) (by simp); have B1 : Below w.heap.size w w1 := k1)
      | (with_reducible refine wpList_alloc_row (o := ⟨some 5, _, _, _, _, _⟩) rfl _ rfl zeroO zero_so ?_; intro w2 z5_2 s2 g2; have k2 : Below w1.heap.size w1 w2 := grown_below g2 (Nat.le_refl _) (by simp); have B2 := B1.trans (k2.mono B1.size); have z4_2 := z4_1.on k2; clear z4_1))
    refine ((HX _).out).mono ?_
    rintro e _ ⟨rfl, rfl⟩
    go_wp2_with fail
    refine ((HEN _).out).mono ?_
    rintro e w3 ⟨rfl, h3⟩
    have B3 := B2.trans (h3.mono B2.size)
    have z4_3 := z4_2.on h3
    have z5_3 := z5_2.on h3
    clear z4_2 z5_2
    go_wp2_with (first
      | ((with_reducible refine wpList_at ⟨none, .store _ (.tmp 4) _, _, _, _, _⟩ ?_); refine wpList_store_all rfl _ _ _ rfl (w.heap.size) rfl _ _ z4_3 (noA.cs) rfl (noA.cs_one) rfl (by kernel_rfl) ?_; intro w4 z4_4 g4; have z5_4 := z5_3.kept g4 (by simp; omega); have B4 := below_kept B3 g4 B3.size (by rintro q hq; cases hq; omega); clear z5_3)
      | ((with_reducible refine wpList_at ⟨none, .store _ (.tmp 5) _, _, _, _, _⟩ ?_); refine wpList_store_all rfl _ _ _ rfl (w1.heap.size) rfl _ _ z5_4 ((⟨em, 0, 1⟩ : StO).cs) rfl ((⟨em, 0, 1⟩ : StO).cs_one) rfl (by kernel_rfl) ?_; intro w5 z5_5 g5; have z4_5 := z4_4.kept g5 (by simp; omega); have B5 := below_kept B4 g5 B4.size (by rintro q hq; cases hq; omega); clear z4_4))
    exact bodyPost_ret (results_cells2 Tryd.results19 _ _ _ _ _ _ rfl rfl (load_ac z4_5) (load_so z5_5)) rfl ⟨by rw [HE.out]; rfl, B5⟩
  | true =>
    rw [hin] at HX
    by_cases h16 : n < 16
    · have HE := Lib.hid (stGet_in (l := l.map StR.s) hin (by rw [HML.out]; exact h16))
      rw [HML.out] at HE
      generalize stGet rec (l.map StR.s) = R at *
      have HRD := fun W => Lib.hid (sread_any rec n W hin h16)
      have HNX := fun W => Lib.hid (snext_any (stRead rec n) W)
      clear hin
      go_enter Tryd.func19, Tryd.ntmps19
      go_wp2_with (first
        | (with_reducible refine wpList_alloc_row (o := ⟨some 4, _, _, _, _, _⟩) rfl _ rfl zeroA zero_ac ?_; intro w6 z4_6 s6 g6; have k6 : Below w.heap.size w w6 := grown_below g6 (Nat.le_refl _) (by simp); have B6 : Below w.heap.size w w6 := k6)
        | (with_reducible refine wpList_alloc_row (o := ⟨some 5, _, _, _, _, _⟩) rfl _ rfl zeroO zero_so ?_; intro w7 z5_7 s7 g7; have k7 : Below w6.heap.size w6 w7 := grown_below g7 (Nat.le_refl _) (by simp); have B7 := B6.trans (k7.mono B6.size); have z4_7 := z4_6.on k7; clear z4_6))
      refine ((HX _).out).mono ?_
      rintro e _ ⟨rfl, rfl⟩
      go_wp2_with fail
      refine ((HRD _).out).mono ?_
      rintro e w8 ⟨rfl, h8⟩
      have B8 := B7.trans (h8.mono B7.size)
      have z4_8 := z4_7.on h8
      have z5_8 := z5_7.on h8
      clear z4_7 z5_7
      go_wp2_with fail
      refine ((HNX _).out).mono ?_
      rintro e w9 ⟨rfl, h9⟩
      have B9 := B8.trans (h9.mono B8.size)
      have z4_9 := z4_8.on h9
      have z5_9 := z5_8.on h9
      clear z4_8 z5_8
      go_wp2_with (first
        | ((with_reducible refine wpList_at ⟨none, .store _ (.tmp 4) _, _, _, _, _⟩ ?_); refine wpList_store_all rfl _ _ _ rfl (w.heap.size) rfl _ _ z4_9 ((stRead rec n).cs) rfl ((stRead rec n).cs_one) rfl (by kernel_rfl) ?_; intro w10 z4_10 g10; have z5_10 := z5_9.kept g10 (by simp; omega); have B10 := below_kept B9 g10 B9.size (by rintro q hq; cases hq; omega); clear z5_9)
        | ((with_reducible refine wpList_at ⟨none, .store _ (.tmp 5) _, _, _, _, _⟩ ?_); refine wpList_store_all rfl _ _ _ rfl (w6.heap.size) rfl _ _ z5_10 (noO.cs) rfl (noO.cs_one) rfl (by kernel_rfl) ?_; intro w11 z5_11 g11; have z4_11 := z4_10.kept g11 (by simp; omega); have B11 := below_kept B10 g11 B10.size (by rintro q hq; cases hq; omega); clear z4_10))
      exact bodyPost_ret (results_cells2 Tryd.results19 _ _ _ _ _ _ rfl rfl (load_ac z4_11) (load_so z5_11)) rfl ⟨by rw [HE.out]; rfl, B11⟩
    have HE := Lib.hid (stGet_all (l := l.map StR.s) hin (by rw [HML.out]; exact h16))
    generalize stGet rec (l.map StR.s) = R at *
    have HLD := fun (W : World) (hW : Below w.heap.size w W) => Lib.hid (sload_any rec A n c l W hin (hK.on hW) (hr.on hW) hc hn (by omega) hs)
    have hcur := seD_of rec (l.map StR.s)
    obtain ⟨x, hx⟩ : ∃ x, x = stE rec (l.map StR.s) := ⟨_, rfl⟩
    rw [← hx] at HLD
    rw [← hx] at hcur
    obtain ⟨p, hp⟩ : ∃ p, p = stCur rec (l.map StR.s) := ⟨_, rfl⟩
    rw [← hp] at hcur
    rw [← hp] at HE
    clear hp hx hin hs hr
    have HNW := fun W => Lib.hid (snewest_any x W)
    cases hq : decide (x.a.n < x.b.n) with
    | true =>
      rw [hq] at HNW
      have hd : x.b = stD p := by rw [← hcur]; unfold seD; rw [if_pos (of_decide_eq_true hq)]
      clear hcur hq
      by_cases h0 : p.1 = 0
      · have HO : Hid (stOut p = ⟨em, 0, 13⟩) := Lib.hid (by unfold stOut; rw [if_pos h0])
        have q0 : (x.b.n == 0) = true := by rw [hd]; simpa [stD] using h0
        have HE2 : Hid (R = (noA, (⟨em, 0, 13⟩ : StO), true)) := Lib.hid (by rw [HE.out, HO.out])
        have HEN := fun W => Lib.hid (send_any (⟨em, 0, 13⟩ : StO) W)
        clear hd h0
        go_enter Tryd.func19, Tryd.ntmps19
        go_wp2_with (first
          | (with_reducible refine wpList_alloc_row (o := ⟨some 4, _, _, _, _, _⟩) rfl _ rfl zeroA zero_ac ?_; intro w12 z4_12 s12 g12; have k12 : Below w.heap.size w w12 := grown_below g12 (Nat.le_refl _) (by simp); have B12 : Below w.heap.size w w12 := k12)
          | (with_reducible refine wpList_alloc_row (o := ⟨some 5, _, _, _, _, _⟩) rfl _ rfl zeroO zero_so ?_; intro w13 z5_13 s13 g13; have k13 : Below w12.heap.size w12 w13 := grown_below g13 (Nat.le_refl _) (by simp); have B13 := B12.trans (k13.mono B12.size); have z4_13 := z4_12.on k13; clear z4_12))
        refine ((HX _).out).mono ?_
        rintro e _ ⟨rfl, rfl⟩
        go_wp2_with fail
        refine ((HLD _ B13).out).mono ?_
        rintro e w14 ⟨rfl, h14⟩
        have B14 := B13.trans (h14.mono B13.size)
        have z4_14 := z4_13.on h14
        have z5_14 := z5_13.on h14
        clear z4_13 z5_13
        go_wp2_with (first
          | (with_reducible refine wpList_alloc_row (o := ⟨some 7, _, _, _, _, _⟩) rfl _ rfl zeroE zero_se ?_; intro w15 r15 s15 g15)
          | ((with_reducible refine wpList_at ⟨none, .store _ (.tmp 7) _, _, _, _, _⟩ ?_); refine wpList_store_all rfl _ _ _ rfl w14.heap.size rfl _ _ r15 (x.cs) rfl (x.cs_one) rfl (by kernel_rfl) ?_; intro w16 re_16 g16; have k16 : Below w14.heap.size w14 w16 := below_kept (grown_below g15 (Nat.le_refl _) (by simp)) g16 (Nat.le_of_lt s15) (by rintro q hq; cases hq; exact Nat.le_refl _); have B16 := B14.trans (k16.mono B14.size); have z4_16 := z4_14.on k16; have z5_16 := z5_14.on k16; clear z4_14 z5_14; clear r15 g15 g16; have s16 := re_16.lt)
          | ((with_reducible refine wpList_at ⟨some 31, _, _, _, _, _⟩ ?_); refine wpList_valueG rfl _ (by exact exec_loadE _ _ rfl (w14.heap.size) rfl x re_16) ?_))
        refine ((HNW _).out).mono ?_
        rintro e w17 ⟨rfl, h17⟩
        have B17 := B16.trans (h17.mono B16.size)
        have z4_17 := z4_16.on h17
        have z5_17 := z5_16.on h17
        have re_17 := re_16.on h17
        clear z4_16 z5_16 re_16
        go_wp2_with (first
          | ((with_reducible refine wpList_at ⟨some 34, _, _, _, _, _⟩ ?_); refine wpList_valueG rfl _ (by exact exec_load _ 69 _ rfl ⟨w14.heap.size, 2, none⟩ rfl x.b.cs (Row.part10 re_17 (pre := x.a.cs) (post := []) rfl rfl) _ Tryd.underlying69 rfl (by kernel_rfl)) ?_)
          | (with_reducible refine wpList_alloc_row (o := ⟨some 8, _, _, _, _, _⟩) rfl _ rfl zeroD zero_sd ?_; intro w18 r18 s18 g18)
          | ((with_reducible refine wpList_at ⟨none, .store _ (.tmp 8) _, _, _, _, _⟩ ?_); refine wpList_store_all rfl _ _ _ rfl w17.heap.size rfl _ _ r18 (x.b.cs) rfl (x.b.cs_one) rfl (by kernel_rfl) ?_; intro w19 rd_19 g19; have k19 : Below w17.heap.size w17 w19 := below_kept (grown_below g18 (Nat.le_refl _) (by simp)) g19 (Nat.le_of_lt s18) (by rintro q hq; cases hq; exact Nat.le_refl _); have B19 := B17.trans (k19.mono B17.size); have z4_19 := z4_17.on k19; have z5_19 := z5_17.on k19; have re_19 := re_17.on k19; clear z4_17 z5_17 re_17; clear r18 g18 g19; have s19 := rd_19.lt; have crd0 := rd_19.cell (j := 0) rfl; have crd1 := rd_19.cell (j := 1) rfl))
        refine ((HEN _).out).mono ?_
        rintro e w20 ⟨rfl, h20⟩
        have B20 := B19.trans (h20.mono B19.size)
        have z4_20 := z4_19.on h20
        have z5_20 := z5_19.on h20
        have re_20 := re_19.on h20
        have rd_20 := rd_19.on h20
        clear z4_19 z5_19 re_19 rd_19
        have crd0 := rd_20.cell (j := 0) rfl
        have crd1 := rd_20.cell (j := 1) rfl
        go_wp2_with (first
          | ((with_reducible refine wpList_at ⟨none, .store _ (.tmp 4) _, _, _, _, _⟩ ?_); refine wpList_store_all rfl _ _ _ rfl (w.heap.size) rfl _ _ z4_20 (noA.cs) rfl (noA.cs_one) rfl (by kernel_rfl) ?_; intro w21 z4_21 g21; have z5_21 := z5_20.kept g21 (by simp; omega); have B21 := below_kept B20 g21 B20.size (by rintro q hq; cases hq; omega); clear z5_20)
          | ((with_reducible refine wpList_at ⟨none, .store _ (.tmp 5) _, _, _, _, _⟩ ?_); refine wpList_store_all rfl _ _ _ rfl (w12.heap.size) rfl _ _ z5_21 ((⟨em, 0, 13⟩ : StO).cs) rfl ((⟨em, 0, 13⟩ : StO).cs_one) rfl (by kernel_rfl) ?_; intro w22 z5_22 g22; have z4_22 := z4_21.kept g22 (by simp; omega); have B22 := below_kept B21 g22 B21.size (by rintro q hq; cases hq; omega); clear z4_21))
        exact bodyPost_ret (results_cells2 Tryd.results19 _ _ _ _ _ _ rfl rfl (load_ac z4_22) (load_so z5_22)) rfl ⟨by rw [HE2.out]; rfl, B22⟩
      · have HO : Hid (stOut p = ⟨x.b.s, x.b.n, 0⟩) := Lib.hid (by unfold stOut; rw [if_neg h0, hd]; rfl)
        have q0 : (x.b.n == 0) = false := by rw [hd]; simpa [stD] using h0
        have HE2 : Hid (R = (noA, (⟨x.b.s, x.b.n, 0⟩ : StO), true)) := Lib.hid (by rw [HE.out, HO.out])
        have HEN := fun W => Lib.hid (send_any (⟨x.b.s, x.b.n, 0⟩ : StO) W)
        clear hd h0
        go_enter Tryd.func19, Tryd.ntmps19
        go_wp2_with (first
          | (with_reducible refine wpList_alloc_row (o := ⟨some 4, _, _, _, _, _⟩) rfl _ rfl zeroA zero_ac ?_; intro w23 z4_23 s23 g23; have k23 : Below w.heap.size w w23 := grown_below g23 (Nat.le_refl _) (by simp); have B23 : Below w.heap.size w w23 := k23)
          | (with_reducible refine wpList_alloc_row (o := ⟨some 5, _, _, _, _, _⟩) rfl _ rfl zeroO zero_so ?_; intro w24 z5_24 s24 g24; have k24 : Below w23.heap.size w23 w24 := grown_below g24 (Nat.le_refl _) (by simp); have B24 := B23.trans (k24.mono B23.size); have z4_24 := z4_23.on k24; clear z4_23))
        refine ((HX _).out).mono ?_
        rintro e _ ⟨rfl, rfl⟩
        go_wp2_with fail
        refine ((HLD _ B24).out).mono ?_
        rintro e w25 ⟨rfl, h25⟩
        have B25 := B24.trans (h25.mono B24.size)
        have z4_25 := z4_24.on h25
        have z5_25 := z5_24.on h25
        clear z4_24 z5_24
        go_wp2_with (first
          | (with_reducible refine wpList_alloc_row (o := ⟨some 7, _, _, _, _, _⟩) rfl _ rfl zeroE zero_se ?_; intro w26 r26 s26 g26)
          | ((with_reducible refine wpList_at ⟨none, .store _ (.tmp 7) _, _, _, _, _⟩ ?_); refine wpList_store_all rfl _ _ _ rfl w25.heap.size rfl _ _ r26 (x.cs) rfl (x.cs_one) rfl (by kernel_rfl) ?_; intro w27 re_27 g27; have k27 : Below w25.heap.size w25 w27 := below_kept (grown_below g26 (Nat.le_refl _) (by simp)) g27 (Nat.le_of_lt s26) (by rintro q hq; cases hq; exact Nat.le_refl _); have B27 := B25.trans (k27.mono B25.size); have z4_27 := z4_25.on k27; have z5_27 := z5_25.on k27; clear z4_25 z5_25; clear r26 g26 g27; have s27 := re_27.lt)
          | ((with_reducible refine wpList_at ⟨some 31, _, _, _, _, _⟩ ?_); refine wpList_valueG rfl _ (by exact exec_loadE _ _ rfl (w25.heap.size) rfl x re_27) ?_))
        refine ((HNW _).out).mono ?_
        rintro e w28 ⟨rfl, h28⟩
        have B28 := B27.trans (h28.mono B27.size)
        have z4_28 := z4_27.on h28
        have z5_28 := z5_27.on h28
        have re_28 := re_27.on h28
        clear z4_27 z5_27 re_27
        go_wp2_with (first
          | ((with_reducible refine wpList_at ⟨some 34, _, _, _, _, _⟩ ?_); refine wpList_valueG rfl _ (by exact exec_load _ 69 _ rfl ⟨w25.heap.size, 2, none⟩ rfl x.b.cs (Row.part10 re_28 (pre := x.a.cs) (post := []) rfl rfl) _ Tryd.underlying69 rfl (by kernel_rfl)) ?_)
          | (with_reducible refine wpList_alloc_row (o := ⟨some 8, _, _, _, _, _⟩) rfl _ rfl zeroD zero_sd ?_; intro w29 r29 s29 g29)
          | ((with_reducible refine wpList_at ⟨none, .store _ (.tmp 8) _, _, _, _, _⟩ ?_); refine wpList_store_all rfl _ _ _ rfl w28.heap.size rfl _ _ r29 (x.b.cs) rfl (x.b.cs_one) rfl (by kernel_rfl) ?_; intro w30 rd_30 g30; have k30 : Below w28.heap.size w28 w30 := below_kept (grown_below g29 (Nat.le_refl _) (by simp)) g30 (Nat.le_of_lt s29) (by rintro q hq; cases hq; exact Nat.le_refl _); have B30 := B28.trans (k30.mono B28.size); have z4_30 := z4_28.on k30; have z5_30 := z5_28.on k30; have re_30 := re_28.on k30; clear z4_28 z5_28 re_28; clear r29 g29 g30; have s30 := rd_30.lt; have crd0 := rd_30.cell (j := 0) rfl; have crd1 := rd_30.cell (j := 1) rfl))
        refine ((HEN _).out).mono ?_
        rintro e w31 ⟨rfl, h31⟩
        have B31 := B30.trans (h31.mono B30.size)
        have z4_31 := z4_30.on h31
        have z5_31 := z5_30.on h31
        have re_31 := re_30.on h31
        have rd_31 := rd_30.on h31
        clear z4_30 z5_30 re_30 rd_30
        have crd0 := rd_31.cell (j := 0) rfl
        have crd1 := rd_31.cell (j := 1) rfl
        go_wp2_with (first
          | ((with_reducible refine wpList_at ⟨none, .store _ (.tmp 4) _, _, _, _, _⟩ ?_); refine wpList_store_all rfl _ _ _ rfl (w.heap.size) rfl _ _ z4_31 (noA.cs) rfl (noA.cs_one) rfl (by kernel_rfl) ?_; intro w32 z4_32 g32; have z5_32 := z5_31.kept g32 (by simp; omega); have B32 := below_kept B31 g32 B31.size (by rintro q hq; cases hq; omega); clear z5_31)
          | ((with_reducible refine wpList_at ⟨none, .store _ (.tmp 5) _, _, _, _, _⟩ ?_); refine wpList_store_all rfl _ _ _ rfl (w23.heap.size) rfl _ _ z5_32 ((⟨x.b.s, x.b.n, 0⟩ : StO).cs) rfl ((⟨x.b.s, x.b.n, 0⟩ : StO).cs_one) rfl (by kernel_rfl) ?_; intro w33 z5_33 g33; have z4_33 := z4_32.kept g33 (by simp; omega); have B33 := below_kept B32 g33 B32.size (by rintro q hq; cases hq; omega); clear z4_32))
        exact bodyPost_ret (results_cells2 Tryd.results19 _ _ _ _ _ _ rfl rfl (load_ac z4_33) (load_so z5_33)) rfl ⟨by rw [HE2.out]; rfl, B33⟩
    | false =>
      rw [hq] at HNW
      have hd : x.a = stD p := by rw [← hcur]; unfold seD; rw [if_neg (of_decide_eq_false hq)]
      clear hcur hq
      by_cases h0 : p.1 = 0
      · have HO : Hid (stOut p = ⟨em, 0, 13⟩) := Lib.hid (by unfold stOut; rw [if_pos h0])
        have q0 : (x.a.n == 0) = true := by rw [hd]; simpa [stD] using h0
        have HE2 : Hid (R = (noA, (⟨em, 0, 13⟩ : StO), true)) := Lib.hid (by rw [HE.out, HO.out])
        have HEN := fun W => Lib.hid (send_any (⟨em, 0, 13⟩ : StO) W)
        clear hd h0
        go_enter Tryd.func19, Tryd.ntmps19
        go_wp2_with (first
          | (with_reducible refine wpList_alloc_row (o := ⟨some 4, _, _, _, _, _⟩) rfl _ rfl zeroA zero_ac ?_; intro w34 z4_34 s34 g34; have k34 : Below w.heap.size w w34 := grown_below g34 (Nat.le_refl _) (by simp); have B34 : Below w.heap.size w w34 := k34)
          | (with_reducible refine wpList_alloc_row (o := ⟨some 5, _, _, _, _, _⟩) rfl _ rfl zeroO zero_so ?_; intro w35 z5_35 s35 g35; have k35 : Below w34.heap.size w34 w35 := grown_below g35 (Nat.le_refl _) (by simp); have B35 := B34.trans (k35.mono B34.size); have z4_35 := z4_34.on k35; clear z4_34))
        refine ((HX _).out).mono ?_
        rintro e _ ⟨rfl, rfl⟩
        go_wp2_with fail
        refine ((HLD _ B35).out).mono ?_
        rintro e w36 ⟨rfl, h36⟩
        have B36 := B35.trans (h36.mono B35.size)
        have z4_36 := z4_35.on h36
        have z5_36 := z5_35.on h36
        clear z4_35 z5_35
        go_wp2_with (first
          | (with_reducible refine wpList_alloc_row (o := ⟨some 7, _, _, _, _, _⟩) rfl _ rfl zeroE zero_se ?_; intro w37 r37 s37 g37)
          | ((with_reducible refine wpList_at ⟨none, .store _ (.tmp 7) _, _, _, _, _⟩ ?_); refine wpList_store_all rfl _ _ _ rfl w36.heap.size rfl _ _ r37 (x.cs) rfl (x.cs_one) rfl (by kernel_rfl) ?_; intro w38 re_38 g38; have k38 : Below w36.heap.size w36 w38 := below_kept (grown_below g37 (Nat.le_refl _) (by simp)) g38 (Nat.le_of_lt s37) (by rintro q hq; cases hq; exact Nat.le_refl _); have B38 := B36.trans (k38.mono B36.size); have z4_38 := z4_36.on k38; have z5_38 := z5_36.on k38; clear z4_36 z5_36; clear r37 g37 g38; have s38 := re_38.lt)
          | ((with_reducible refine wpList_at ⟨some 31, _, _, _, _, _⟩ ?_); refine wpList_valueG rfl _ (by exact exec_loadE _ _ rfl (w36.heap.size) rfl x re_38) ?_))
        refine ((HNW _).out).mono ?_
        rintro e w39 ⟨rfl, h39⟩
        have B39 := B38.trans (h39.mono B38.size)
        have z4_39 := z4_38.on h39
        have z5_39 := z5_38.on h39
        have re_39 := re_38.on h39
        clear z4_38 z5_38 re_38
        go_wp2_with (first
          | ((with_reducible refine wpList_at ⟨some 34, _, _, _, _, _⟩ ?_); refine wpList_valueG rfl _ (by exact exec_load _ 69 _ rfl ⟨w36.heap.size, 0, none⟩ rfl x.a.cs (Row.part10 re_39 (pre := []) (post := x.b.cs) rfl rfl) _ Tryd.underlying69 rfl (by kernel_rfl)) ?_)
          | (with_reducible refine wpList_alloc_row (o := ⟨some 8, _, _, _, _, _⟩) rfl _ rfl zeroD zero_sd ?_; intro w40 r40 s40 g40)
          | ((with_reducible refine wpList_at ⟨none, .store _ (.tmp 8) _, _, _, _, _⟩ ?_); refine wpList_store_all rfl _ _ _ rfl w39.heap.size rfl _ _ r40 (x.a.cs) rfl (x.a.cs_one) rfl (by kernel_rfl) ?_; intro w41 rd_41 g41; have k41 : Below w39.heap.size w39 w41 := below_kept (grown_below g40 (Nat.le_refl _) (by simp)) g41 (Nat.le_of_lt s40) (by rintro q hq; cases hq; exact Nat.le_refl _); have B41 := B39.trans (k41.mono B39.size); have z4_41 := z4_39.on k41; have z5_41 := z5_39.on k41; have re_41 := re_39.on k41; clear z4_39 z5_39 re_39; clear r40 g40 g41; have s41 := rd_41.lt; have crd0 := rd_41.cell (j := 0) rfl; have crd1 := rd_41.cell (j := 1) rfl))
        refine ((HEN _).out).mono ?_
        rintro e w42 ⟨rfl, h42⟩
        have B42 := B41.trans (h42.mono B41.size)
        have z4_42 := z4_41.on h42
        have z5_42 := z5_41.on h42
        have re_42 := re_41.on h42
        have rd_42 := rd_41.on h42
        clear z4_41 z5_41 re_41 rd_41
        have crd0 := rd_42.cell (j := 0) rfl
        have crd1 := rd_42.cell (j := 1) rfl
        go_wp2_with (first
          | ((with_reducible refine wpList_at ⟨none, .store _ (.tmp 4) _, _, _, _, _⟩ ?_); refine wpList_store_all rfl _ _ _ rfl (w.heap.size) rfl _ _ z4_42 (noA.cs) rfl (noA.cs_one) rfl (by kernel_rfl) ?_; intro w43 z4_43 g43; have z5_43 := z5_42.kept g43 (by simp; omega); have B43 := below_kept B42 g43 B42.size (by rintro q hq; cases hq; omega); clear z5_42)
          | ((with_reducible refine wpList_at ⟨none, .store _ (.tmp 5) _, _, _, _, _⟩ ?_); refine wpList_store_all rfl _ _ _ rfl (w34.heap.size) rfl _ _ z5_43 ((⟨em, 0, 13⟩ : StO).cs) rfl ((⟨em, 0, 13⟩ : StO).cs_one) rfl (by kernel_rfl) ?_; intro w44 z5_44 g44; have z4_44 := z4_43.kept g44 (by simp; omega); have B44 := below_kept B43 g44 B43.size (by rintro q hq; cases hq; omega); clear z4_43))
        exact bodyPost_ret (results_cells2 Tryd.results19 _ _ _ _ _ _ rfl rfl (load_ac z4_44) (load_so z5_44)) rfl ⟨by rw [HE2.out]; rfl, B44⟩
      · have HO : Hid (stOut p = ⟨x.a.s, x.a.n, 0⟩) := Lib.hid (by unfold stOut; rw [if_neg h0, hd]; rfl)
        have q0 : (x.a.n == 0) = false := by rw [hd]; simpa [stD] using h0
        have HE2 : Hid (R = (noA, (⟨x.a.s, x.a.n, 0⟩ : StO), true)) := Lib.hid (by rw [HE.out, HO.out])
        have HEN := fun W => Lib.hid (send_any (⟨x.a.s, x.a.n, 0⟩ : StO) W)
        clear hd h0
        go_enter Tryd.func19, Tryd.ntmps19
        go_wp2_with (first
          | (with_reducible refine wpList_alloc_row (o := ⟨some 4, _, _, _, _, _⟩) rfl _ rfl zeroA zero_ac ?_; intro w45 z4_45 s45 g45; have k45 : Below w.heap.size w w45 := grown_below g45 (Nat.le_refl _) (by simp); have B45 : Below w.heap.size w w45 := k45)
          | (with_reducible refine wpList_alloc_row (o := ⟨some 5, _, _, _, _, _⟩) rfl _ rfl zeroO zero_so ?_; intro w46 z5_46 s46 g46; have k46 : Below w45.heap.size w45 w46 := grown_below g46 (Nat.le_refl _) (by simp); have B46 := B45.trans (k46.mono B45.size); have z4_46 := z4_45.on k46; clear z4_45))
        refine ((HX _).out).mono ?_
        rintro e _ ⟨rfl, rfl⟩
        go_wp2_with fail
        refine ((HLD _ B46).out).mono ?_
        rintro e w47 ⟨rfl, h47⟩
        have B47 := B46.trans (h47.mono B46.size)
        have z4_47 := z4_46.on h47
        have z5_47 := z5_46.on h47
        clear z4_46 z5_46
        go_wp2_with (first
          | (with_reducible refine wpList_alloc_row (o := ⟨some 7, _, _, _, _, _⟩) rfl _ rfl zeroE zero_se ?_; intro w48 r48 s48 g48)
          | ((with_reducible refine wpList_at ⟨none, .store _ (.tmp 7) _, _, _, _, _⟩ ?_); refine wpList_store_all rfl _ _ _ rfl w47.heap.size rfl _ _ r48 (x.cs) rfl (x.cs_one) rfl (by kernel_rfl) ?_; intro w49 re_49 g49; have k49 : Below w47.heap.size w47 w49 := below_kept (grown_below g48 (Nat.le_refl _) (by simp)) g49 (Nat.le_of_lt s48) (by rintro q hq; cases hq; exact Nat.le_refl _); have B49 := B47.trans (k49.mono B47.size); have z4_49 := z4_47.on k49; have z5_49 := z5_47.on k49; clear z4_47 z5_47; clear r48 g48 g49; have s49 := re_49.lt)
          | ((with_reducible refine wpList_at ⟨some 31, _, _, _, _, _⟩ ?_); refine wpList_valueG rfl _ (by exact exec_loadE _ _ rfl (w47.heap.size) rfl x re_49) ?_))
        refine ((HNW _).out).mono ?_
        rintro e w50 ⟨rfl, h50⟩
        have B50 := B49.trans (h50.mono B49.size)
        have z4_50 := z4_49.on h50
        have z5_50 := z5_49.on h50
        have re_50 := re_49.on h50
        clear z4_49 z5_49 re_49
        go_wp2_with (first
          | ((with_reducible refine wpList_at ⟨some 34, _, _, _, _, _⟩ ?_); refine wpList_valueG rfl _ (by exact exec_load _ 69 _ rfl ⟨w47.heap.size, 0, none⟩ rfl x.a.cs (Row.part10 re_50 (pre := []) (post := x.b.cs) rfl rfl) _ Tryd.underlying69 rfl (by kernel_rfl)) ?_)
          | (with_reducible refine wpList_alloc_row (o := ⟨some 8, _, _, _, _, _⟩) rfl _ rfl zeroD zero_sd ?_; intro w51 r51 s51 g51)
          | ((with_reducible refine wpList_at ⟨none, .store _ (.tmp 8) _, _, _, _, _⟩ ?_); refine wpList_store_all rfl _ _ _ rfl w50.heap.size rfl _ _ r51 (x.a.cs) rfl (x.a.cs_one) rfl (by kernel_rfl) ?_; intro w52 rd_52 g52; have k52 : Below w50.heap.size w50 w52 := below_kept (grown_below g51 (Nat.le_refl _) (by simp)) g52 (Nat.le_of_lt s51) (by rintro q hq; cases hq; exact Nat.le_refl _); have B52 := B50.trans (k52.mono B50.size); have z4_52 := z4_50.on k52; have z5_52 := z5_50.on k52; have re_52 := re_50.on k52; clear z4_50 z5_50 re_50; clear r51 g51 g52; have s52 := rd_52.lt; have crd0 := rd_52.cell (j := 0) rfl; have crd1 := rd_52.cell (j := 1) rfl))
        refine ((HEN _).out).mono ?_
        rintro e w53 ⟨rfl, h53⟩
        have B53 := B52.trans (h53.mono B52.size)
        have z4_53 := z4_52.on h53
        have z5_53 := z5_52.on h53
        have re_53 := re_52.on h53
        have rd_53 := rd_52.on h53
        clear z4_52 z5_52 re_52 rd_52
        have crd0 := rd_53.cell (j := 0) rfl
        have crd1 := rd_53.cell (j := 1) rfl
        go_wp2_with (first
          | ((with_reducible refine wpList_at ⟨none, .store _ (.tmp 4) _, _, _, _, _⟩ ?_); refine wpList_store_all rfl _ _ _ rfl (w.heap.size) rfl _ _ z4_53 (noA.cs) rfl (noA.cs_one) rfl (by kernel_rfl) ?_; intro w54 z4_54 g54; have z5_54 := z5_53.kept g54 (by simp; omega); have B54 := below_kept B53 g54 B53.size (by rintro q hq; cases hq; omega); clear z5_53)
          | ((with_reducible refine wpList_at ⟨none, .store _ (.tmp 5) _, _, _, _, _⟩ ?_); refine wpList_store_all rfl _ _ _ rfl (w45.heap.size) rfl _ _ z5_54 ((⟨x.a.s, x.a.n, 0⟩ : StO).cs) rfl ((⟨x.a.s, x.a.n, 0⟩ : StO).cs_one) rfl (by kernel_rfl) ?_; intro w55 z5_55 g55; have z4_55 := z4_54.kept g55 (by simp; omega); have B55 := below_kept B54 g55 B54.size (by rintro q hq; cases hq; omega); clear z4_54))
        exact bodyPost_ret (results_cells2 Tryd.results19 _ _ _ _ _ _ rfl rfl (load_ac z4_55) (load_so z5_55)) rfl ⟨by rw [HE2.out]; rfl, B55⟩
end Go.Proofs.YtfclifolniefpaaDoor
