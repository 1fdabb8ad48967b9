/-
  What store.Put returns where it makes no write: a contract by walks. Conditions: the table of constants as laid; bounded lengths.
-/
import Derived.Test.YtfclifolniefpaaDoorStJ
import Derived.Test.YtfclifolniefpaaDoorStI
set_option linter.unusedSimpArgs false
set_option linter.unusedVariables false
namespace Go.Proofs.YtfclifolniefpaaDoor
open Go.RowKit

section
variable {rec : Int} {c : ByteArray} {l : List ByteArray}
theorem stPut_out (h : stIn rec = false) : stPut rec c l = (noA, ⟨em, 0, 1⟩, true) := by unfold stPut; rw [h]; rfl
theorem stPut_big (h : stIn rec = true) (hc : ¬ c.size ≤ 2000) : stPut rec c l = (noA, ⟨em, 0, 19⟩, true) := by unfold stPut; rw [h, if_pos rfl, if_neg hc]
theorem stPut_rd (h : stIn rec = true) (hc : c.size ≤ 2000) (hl : l.length < 16) : stPut rec c l = (stRead rec l.length, noO, false) := by unfold stPut; rw [h, if_pos rfl, if_pos hc, if_pos hl]
theorem stPut_full (h : stIn rec = true) (hc : c.size ≤ 2000) (hl : ¬ l.length < 16) (hs : ¬ (stCur rec l).1 < 1099511627776) : stPut rec c l = (noA, ⟨em, 0, 19⟩, true) := by unfold stPut; rw [h, if_pos rfl, if_pos hc, if_neg hl, if_neg hs]
theorem stPut_go (h : stIn rec = true) (hc : c.size ≤ 2000) (hl : ¬ l.length < 16) (hs : (stCur rec l).1 < 1099511627776) : stPut rec c l = if l.length - 16 ≤ stCnt (stBytes rec c l) then (stWrt (16 * rec + 8 * stTgt rec l) (stBytes rec c l) (l.length - 16), noO, false) else (noA, ⟨c, (stCur rec l).1 + 1, 0⟩, true) := by unfold stPut; rw [h, if_pos rfl, if_pos hc, if_neg hl, if_pos hs]
end
theorem load_one {P : Program} {w : World} {ty : TypeId} {ad : Addr} {v : Value} (hc : w.cell? ad = some v) (d : TypeDesc) (hu : P.underlying ty = some d) (hd : (match d with | .struct _ | .array _ _ => true | _ => false) = false) : (loadVar ty ad).run P w = .ok v w := by
  have hagg : (isAgg ty).run P w = .ok false w := by
    unfold isAgg
    rw [Sem.run_bind, run_underlying hu w]
    cases d <;> simp_all
  simp [loadVar, Sem.run_bind, hagg, hc]
theorem seCur_of (rec : Int) (l : List ByteArray) : seCur (stE rec l) = (stCur rec l).1 := by
  have h := seD_of rec l
  have h2 : (seD (stE rec l)).n = seCur (stE rec l) := by unfold seD seCur; split <;> rfl
  rw [← h2, h]
  rfl
theorem seTgt_of (rec : Int) (l : List ByteArray) : seTgt (stE rec l) = stTgt rec l := by
  unfold seTgt stTgt
  rw [seCur_of]
  by_cases h0 : (stCur rec l).1 = 0
  · rw [if_pos h0, if_pos h0]
  · rw [if_neg h0, if_neg h0]
    unfold stNew
    by_cases h : (stA0 rec l).1 < (stA1 rec l).1
    · rw [if_pos (show (stE rec l).a.n < (stE rec l).b.n from h), if_pos (decide_eq_true h)]
    · rw [if_neg (show ¬ (stE rec l).a.n < (stE rec l).b.n from h), if_neg (by rw [decide_eq_false h]; decide)]
theorem stE_nn (rec : Int) (l : List ByteArray) : (0 ≤ (stE rec l).a.n ∧ (stE rec l).a.n ≤ 1099511627776) ∧ (0 ≤ (stE rec l).b.n ∧ (stE rec l).b.n ≤ 1099511627776) :=
  ⟨⟨(stDec_nn _ _).1, (stDec_nn _ _).2.1⟩, ⟨(stDec_nn _ _).1, (stDec_nn _ _).2.1⟩⟩
set_option maxRecDepth 100000 in
set_option maxHeartbeats 4000000 in
theorem sput_few (rec : Int) (c : ByteArray) (A : Option Addr) (n d : Nat) (l : List StR) (w : World) (hK : Consts w) (hr : Reads w w.heap.size 2 A n (rcs l)) (hc : n ≤ d) (hn : n ≤ 1000) (hs : ∀ r ∈ l, r.s.size ≤ 400) (hcs : c.size ≤ 1000000)
    (hgo : stIn rec = true → c.size ≤ 2000 → ¬ n < 16 → (stCur rec (l.map StR.s)).1 < 1099511627776 → Calls Tryd.prog 28 #[.int .i64 rec, .string c, .slice A n d] w (GivesS (stPut rec c (l.map StR.s)) w)) :
    Calls Tryd.prog 28 #[.int .i64 rec, .string c, .slice A n d] w (GivesS (stPut rec c (l.map StR.s)) w) := by
  have HX := fun W => Lib.hid (sexists_any rec W)
  have HLN := Lib.hid (hr.len_of (by decide) StR.cs_len)
  have HML : Hid ((l.map StR.s).length = n) := Lib.hid (by rw [List.length_map, HLN.out])
  cases hin : stIn rec with
  | false =>
    rw [hin] at HX
    have HE := Lib.hid (stPut_out (c := c) (l := l.map StR.s) hin)
    generalize stPut rec c (l.map StR.s) = R at *
    clear hin hgo
    have HEN := fun W => Lib.hid (send_any ⟨em, 0, 1⟩ W)
    go_enter Tryd.func28, Tryd.ntmps28
    go_wp2_with (first
      | ((with_reducible refine wpList_at ⟨some 3, _, _, _, _, _⟩ ?_); refine wpList_box_row rfl _ _ rfl [.int .i64 rec] rfl ?_; intro w1 r3_1 s1 g1; have k1 : Below w.heap.size w w1 := grown_below g1 (Nat.le_refl _) (by simp); have B1 : Below w.heap.size w w1 := k1; have cr30 := r3_1.cell (j := 0) rfl)
      | ((with_reducible refine wpList_at ⟨some 5, _, _, _, _, _⟩ ?_); refine wpList_box_row rfl _ _ rfl [.slice A n d] rfl ?_; intro w2 r5_2 s2 g2; have k2 : Below w1.heap.size w1 w2 := grown_below g2 (Nat.le_refl _) (by simp); have B2 := B1.trans (k2.mono B1.size); have r3_2 := r3_1.on k2; clear r3_1; have cr30 := r3_2.cell (j := 0) rfl; have cr50 := r5_2.cell (j := 0) rfl)
      | (with_reducible refine wpList_alloc_row (o := ⟨some 6, _, _, _, _, _⟩) rfl _ rfl zeroA zero_ac ?_; intro w3 z6_3 s3 g3; have k3 : Below w2.heap.size w2 w3 := grown_below g3 (Nat.le_refl _) (by simp); have B3 := B2.trans (k3.mono B2.size); have r3_3 := r3_2.on k3; have r5_3 := r5_2.on k3; clear r3_2 r5_2; have cr30 := r3_3.cell (j := 0) rfl; have cr50 := r5_3.cell (j := 0) rfl)
      | (with_reducible refine wpList_alloc_row (o := ⟨some 7, _, _, _, _, _⟩) rfl _ rfl zeroO zero_so ?_; intro w4 z7_4 s4 g4; have k4 : Below w3.heap.size w3 w4 := grown_below g4 (Nat.le_refl _) (by simp); have B4 := B3.trans (k4.mono B3.size); have r3_4 := r3_3.on k4; have r5_4 := r5_3.on k4; have z6_4 := z6_3.on k4; clear r3_3 r5_3 z6_3; have cr30 := r3_4.cell (j := 0) rfl; have cr50 := r5_4.cell (j := 0) rfl)
      | (with_reducible refine wpList_alloc_row (o := ⟨some 8, _, _, _, _, _⟩) rfl _ rfl [.bool false] (by kernel_rfl) ?_; intro w5 z8_5 s5 g5; have l5r3 := r3_4.lt; have l5r5 := r5_4.lt; have l5z6 := z6_4.lt; have l5z7 := z7_4.lt; have lB5 := B4.size; have k5 : Below w4.heap.size w4 w5 := grown_below g5 (Nat.le_refl _) (by simp); have B5 := B4.trans (k5.mono B4.size); have r3_5 := r3_4.on k5; have r5_5 := r5_4.on k5; have z6_5 := z6_4.on k5; have z7_5 := z7_4.on k5; clear r3_4 r5_4 z6_4 z7_4; have cr30 := r3_5.cell (j := 0) rfl; have cr50 := r5_5.cell (j := 0) rfl))
    refine ((HX _).out).mono ?_
    rintro e _ ⟨rfl, rfl⟩
    go_wp2_with fail
    refine ((HEN _).out).mono ?_
    rintro e w6 ⟨rfl, h6⟩
    have B6 := B5.trans (h6.mono B5.size)
    have r3_6 := r3_5.on h6
    have r5_6 := r5_5.on h6
    have z6_6 := z6_5.on h6
    have z7_6 := z7_5.on h6
    have z8_6 := z8_5.on h6
    clear r3_5 r5_5 z6_5 z7_5 z8_5
    have cr30 := r3_6.cell (j := 0) rfl
    have cr50 := r5_6.cell (j := 0) rfl
    go_wp2_with (first
      | ((with_reducible refine wpList_at ⟨none, .store _ (.tmp 6) _, _, _, _, _⟩ ?_); refine wpList_store_all rfl _ _ _ rfl (w2.heap.size) rfl _ _ z6_6 (noA.cs) rfl (noA.cs_one) rfl (by kernel_rfl) ?_; intro w7 z6_7 g7; have z7_7 := z7_6.kept g7 (by simp; omega); have z8_7 := z8_6.kept g7 (by simp; omega); have B7 := below_kept B6 g7 B6.size (by rintro q hq; cases hq; omega); clear z7_6 z8_6)
      | ((with_reducible refine wpList_at ⟨none, .store _ (.tmp 7) _, _, _, _, _⟩ ?_); refine wpList_store_all rfl _ _ _ rfl (w3.heap.size) rfl _ _ z7_7 ((⟨em, 0, 1⟩ : StO).cs) rfl ((⟨em, 0, 1⟩ : StO).cs_one) rfl (by kernel_rfl) ?_; intro w8 z7_8 g8; have z6_8 := z6_7.kept g8 (by simp; omega); have z8_8 := z8_7.kept g8 (by simp; omega); have B8 := below_kept B7 g8 B7.size (by rintro q hq; cases hq; omega); clear z6_7 z8_7)
      | ((with_reducible refine wpList_at ⟨none, .store _ (.tmp 8) _, _, _, _, _⟩ ?_); refine wpList_store_elem rfl _ _ _ rfl (w4.heap.size) 0 rfl _ _ z8_8 (.bool true) rfl rfl (by simp) (by kernel_rfl) ?_; intro w9 z8x_9 g9; have z6_9 := z6_8.kept g9 (by simp; omega); have z7_9 := z7_8.kept g9 (by simp; omega); have z8_9 : Row w9 (w4.heap.size) _ [.bool true] := z8x_9; have B9 := below_kept B8 g9 B8.size (by rintro q hq; cases hq; omega); clear z6_8 z7_8))
    exact bodyPost_ret (results_cells3 Tryd.results28 _ _ _ _ _ _ _ _ rfl rfl rfl (load_ac z6_9) (load_so z7_9) (load_one (z8_9.cell (j := 0) rfl) _ Tryd.underlying4 rfl)) rfl ⟨by first | (rw [HE.out]; done) | (rw [HE.out]; rfl), B9⟩
  | true =>
    rw [hin] at HX
    by_cases h2000 : c.size ≤ 2000
    rotate_left
    · have HE := Lib.hid (stPut_big (c := c) (l := l.map StR.s) hin h2000)
      generalize stPut rec c (l.map StR.s) = R at *
      clear hin hgo
      have HEN := fun W => Lib.hid (send_any ⟨em, 0, 19⟩ W)
      go_enter Tryd.func28, Tryd.ntmps28
      go_wp2_with (first
        | ((with_reducible refine wpList_at ⟨some 3, _, _, _, _, _⟩ ?_); refine wpList_box_row rfl _ _ rfl [.int .i64 rec] rfl ?_; intro w10 r3_10 s10 g10; have k10 : Below w.heap.size w w10 := grown_below g10 (Nat.le_refl _) (by simp); have B10 : Below w.heap.size w w10 := k10; have cr30 := r3_10.cell (j := 0) rfl)
        | ((with_reducible refine wpList_at ⟨some 5, _, _, _, _, _⟩ ?_); refine wpList_box_row rfl _ _ rfl [.slice A n d] rfl ?_; intro w11 r5_11 s11 g11; have k11 : Below w10.heap.size w10 w11 := grown_below g11 (Nat.le_refl _) (by simp); have B11 := B10.trans (k11.mono B10.size); have r3_11 := r3_10.on k11; clear r3_10; have cr30 := r3_11.cell (j := 0) rfl; have cr50 := r5_11.cell (j := 0) rfl)
        | (with_reducible refine wpList_alloc_row (o := ⟨some 6, _, _, _, _, _⟩) rfl _ rfl zeroA zero_ac ?_; intro w12 z6_12 s12 g12; have k12 : Below w11.heap.size w11 w12 := grown_below g12 (Nat.le_refl _) (by simp); have B12 := B11.trans (k12.mono B11.size); have r3_12 := r3_11.on k12; have r5_12 := r5_11.on k12; clear r3_11 r5_11; have cr30 := r3_12.cell (j := 0) rfl; have cr50 := r5_12.cell (j := 0) rfl)
        | (with_reducible refine wpList_alloc_row (o := ⟨some 7, _, _, _, _, _⟩) rfl _ rfl zeroO zero_so ?_; intro w13 z7_13 s13 g13; have k13 : Below w12.heap.size w12 w13 := grown_below g13 (Nat.le_refl _) (by simp); have B13 := B12.trans (k13.mono B12.size); have r3_13 := r3_12.on k13; have r5_13 := r5_12.on k13; have z6_13 := z6_12.on k13; clear r3_12 r5_12 z6_12; have cr30 := r3_13.cell (j := 0) rfl; have cr50 := r5_13.cell (j := 0) rfl)
        | (with_reducible refine wpList_alloc_row (o := ⟨some 8, _, _, _, _, _⟩) rfl _ rfl [.bool false] (by kernel_rfl) ?_; intro w14 z8_14 s14 g14; have l14r3 := r3_13.lt; have l14r5 := r5_13.lt; have l14z6 := z6_13.lt; have l14z7 := z7_13.lt; have lB14 := B13.size; have k14 : Below w13.heap.size w13 w14 := grown_below g14 (Nat.le_refl _) (by simp); have B14 := B13.trans (k14.mono B13.size); have r3_14 := r3_13.on k14; have r5_14 := r5_13.on k14; have z6_14 := z6_13.on k14; have z7_14 := z7_13.on k14; clear r3_13 r5_13 z6_13 z7_13; have cr30 := r3_14.cell (j := 0) rfl; have cr50 := r5_14.cell (j := 0) rfl))
      refine ((HX _).out).mono ?_
      rintro e _ ⟨rfl, rfl⟩
      go_wp2_with fail
      refine ((HEN _).out).mono ?_
      rintro e w15 ⟨rfl, h15⟩
      have B15 := B14.trans (h15.mono B14.size)
      have r3_15 := r3_14.on h15
      have r5_15 := r5_14.on h15
      have z6_15 := z6_14.on h15
      have z7_15 := z7_14.on h15
      have z8_15 := z8_14.on h15
      clear r3_14 r5_14 z6_14 z7_14 z8_14
      have cr30 := r3_15.cell (j := 0) rfl
      have cr50 := r5_15.cell (j := 0) rfl
      go_wp2_with (first
        | ((with_reducible refine wpList_at ⟨none, .store _ (.tmp 6) _, _, _, _, _⟩ ?_); refine wpList_store_all rfl _ _ _ rfl (w11.heap.size) rfl _ _ z6_15 (noA.cs) rfl (noA.cs_one) rfl (by kernel_rfl) ?_; intro w16 z6_16 g16; have z7_16 := z7_15.kept g16 (by simp; omega); have z8_16 := z8_15.kept g16 (by simp; omega); have B16 := below_kept B15 g16 B15.size (by rintro q hq; cases hq; omega); clear z7_15 z8_15)
        | ((with_reducible refine wpList_at ⟨none, .store _ (.tmp 7) _, _, _, _, _⟩ ?_); refine wpList_store_all rfl _ _ _ rfl (w12.heap.size) rfl _ _ z7_16 ((⟨em, 0, 19⟩ : StO).cs) rfl ((⟨em, 0, 19⟩ : StO).cs_one) rfl (by kernel_rfl) ?_; intro w17 z7_17 g17; have z6_17 := z6_16.kept g17 (by simp; omega); have z8_17 := z8_16.kept g17 (by simp; omega); have B17 := below_kept B16 g17 B16.size (by rintro q hq; cases hq; omega); clear z6_16 z8_16)
        | ((with_reducible refine wpList_at ⟨none, .store _ (.tmp 8) _, _, _, _, _⟩ ?_); refine wpList_store_elem rfl _ _ _ rfl (w13.heap.size) 0 rfl _ _ z8_17 (.bool true) rfl rfl (by simp) (by kernel_rfl) ?_; intro w18 z8x_18 g18; have z6_18 := z6_17.kept g18 (by simp; omega); have z7_18 := z7_17.kept g18 (by simp; omega); have z8_18 : Row w18 (w13.heap.size) _ [.bool true] := z8x_18; have B18 := below_kept B17 g18 B17.size (by rintro q hq; cases hq; omega); clear z6_17 z7_17))
      exact bodyPost_ret (results_cells3 Tryd.results28 _ _ _ _ _ _ _ _ rfl rfl rfl (load_ac z6_18) (load_so z7_18) (load_one (z8_18.cell (j := 0) rfl) _ Tryd.underlying4 rfl)) rfl ⟨by first | (rw [HE.out]; done) | (rw [HE.out]; rfl), B18⟩
    by_cases h16 : n < 16
    · have HE := Lib.hid (stPut_rd (c := c) (l := l.map StR.s) hin h2000 (by rw [HML.out]; exact h16))
      rw [HML.out] at HE
      generalize stPut rec c (l.map StR.s) = R at *
      have HRD := fun W => Lib.hid (sread_any rec n W hin h16)
      have HNX := fun W => Lib.hid (snext_any (stRead rec n) W)
      clear hin hgo
      go_enter Tryd.func28, Tryd.ntmps28
      go_wp2_with (first
        | ((with_reducible refine wpList_at ⟨some 3, _, _, _, _, _⟩ ?_); refine wpList_box_row rfl _ _ rfl [.int .i64 rec] rfl ?_; intro w19 r3_19 s19 g19; have k19 : Below w.heap.size w w19 := grown_below g19 (Nat.le_refl _) (by simp); have B19 : Below w.heap.size w w19 := k19; have cr30 := r3_19.cell (j := 0) rfl)
        | ((with_reducible refine wpList_at ⟨some 5, _, _, _, _, _⟩ ?_); refine wpList_box_row rfl _ _ rfl [.slice A n d] rfl ?_; intro w20 r5_20 s20 g20; have k20 : Below w19.heap.size w19 w20 := grown_below g20 (Nat.le_refl _) (by simp); have B20 := B19.trans (k20.mono B19.size); have r3_20 := r3_19.on k20; clear r3_19; have cr30 := r3_20.cell (j := 0) rfl; have cr50 := r5_20.cell (j := 0) rfl)
        | (with_reducible refine wpList_alloc_row (o := ⟨some 6, _, _, _, _, _⟩) rfl _ rfl zeroA zero_ac ?_; intro w21 z6_21 s21 g21; have k21 : Below w20.heap.size w20 w21 := grown_below g21 (Nat.le_refl _) (by simp); have B21 := B20.trans (k21.mono B20.size); have r3_21 := r3_20.on k21; have r5_21 := r5_20.on k21; clear r3_20 r5_20; have cr30 := r3_21.cell (j := 0) rfl; have cr50 := r5_21.cell (j := 0) rfl)
        | (with_reducible refine wpList_alloc_row (o := ⟨some 7, _, _, _, _, _⟩) rfl _ rfl zeroO zero_so ?_; intro w22 z7_22 s22 g22; have k22 : Below w21.heap.size w21 w22 := grown_below g22 (Nat.le_refl _) (by simp); have B22 := B21.trans (k22.mono B21.size); have r3_22 := r3_21.on k22; have r5_22 := r5_21.on k22; have z6_22 := z6_21.on k22; clear r3_21 r5_21 z6_21; have cr30 := r3_22.cell (j := 0) rfl; have cr50 := r5_22.cell (j := 0) rfl)
        | (with_reducible refine wpList_alloc_row (o := ⟨some 8, _, _, _, _, _⟩) rfl _ rfl [.bool false] (by kernel_rfl) ?_; intro w23 z8_23 s23 g23; have l23r3 := r3_22.lt; have l23r5 := r5_22.lt; have l23z6 := z6_22.lt; have l23z7 := z7_22.lt; have lB23 := B22.size; have k23 : Below w22.heap.size w22 w23 := grown_below g23 (Nat.le_refl _) (by simp); have B23 := B22.trans (k23.mono B22.size); have r3_23 := r3_22.on k23; have r5_23 := r5_22.on k23; have z6_23 := z6_22.on k23; have z7_23 := z7_22.on k23; clear r3_22 r5_22 z6_22 z7_22; have cr30 := r3_23.cell (j := 0) rfl; have cr50 := r5_23.cell (j := 0) rfl))
      refine ((HX _).out).mono ?_
      rintro e _ ⟨rfl, rfl⟩
      go_wp2_with fail
      refine ((HRD _).out).mono ?_
      rintro e w24 ⟨rfl, h24⟩
      have B24 := B23.trans (h24.mono B23.size)
      have r3_24 := r3_23.on h24
      have r5_24 := r5_23.on h24
      have z6_24 := z6_23.on h24
      have z7_24 := z7_23.on h24
      have z8_24 := z8_23.on h24
      clear r3_23 r5_23 z6_23 z7_23 z8_23
      have cr30 := r3_24.cell (j := 0) rfl
      have cr50 := r5_24.cell (j := 0) rfl
      go_wp2_with fail
      refine ((HNX _).out).mono ?_
      rintro e w25 ⟨rfl, h25⟩
      have B25 := B24.trans (h25.mono B24.size)
      have r3_25 := r3_24.on h25
      have r5_25 := r5_24.on h25
      have z6_25 := z6_24.on h25
      have z7_25 := z7_24.on h25
      have z8_25 := z8_24.on h25
      clear r3_24 r5_24 z6_24 z7_24 z8_24
      have cr30 := r3_25.cell (j := 0) rfl
      have cr50 := r5_25.cell (j := 0) rfl
      go_wp2_with (first
        | ((with_reducible refine wpList_at ⟨none, .store _ (.tmp 6) _, _, _, _, _⟩ ?_); refine wpList_store_all rfl _ _ _ rfl (w20.heap.size) rfl _ _ z6_25 ((stRead rec n).cs) rfl ((stRead rec n).cs_one) rfl (by kernel_rfl) ?_; intro w26 z6_26 g26; have z7_26 := z7_25.kept g26 (by simp; omega); have z8_26 := z8_25.kept g26 (by simp; omega); have B26 := below_kept B25 g26 B25.size (by rintro q hq; cases hq; omega); clear z7_25 z8_25)
        | ((with_reducible refine wpList_at ⟨none, .store _ (.tmp 7) _, _, _, _, _⟩ ?_); refine wpList_store_all rfl _ _ _ rfl (w21.heap.size) rfl _ _ z7_26 (noO.cs) rfl (noO.cs_one) rfl (by kernel_rfl) ?_; intro w27 z7_27 g27; have z6_27 := z6_26.kept g27 (by simp; omega); have z8_27 := z8_26.kept g27 (by simp; omega); have B27 := below_kept B26 g27 B26.size (by rintro q hq; cases hq; omega); clear z6_26 z8_26)
        | ((with_reducible refine wpList_at ⟨none, .store _ (.tmp 8) _, _, _, _, _⟩ ?_); refine wpList_store_elem rfl _ _ _ rfl (w22.heap.size) 0 rfl _ _ z8_27 (.bool false) rfl rfl (by simp) (by kernel_rfl) ?_; intro w28 z8x_28 g28; have z6_28 := z6_27.kept g28 (by simp; omega); have z7_28 := z7_27.kept g28 (by simp; omega); have z8_28 : Row w28 (w22.heap.size) _ [.bool false] := z8x_28; have B28 := below_kept B27 g28 B27.size (by rintro q hq; cases hq; omega); clear z6_27 z7_27))
      exact bodyPost_ret (results_cells3 Tryd.results28 _ _ _ _ _ _ _ _ rfl rfl rfl (load_ac z6_28) (load_so z7_28) (load_one (z8_28.cell (j := 0) rfl) _ Tryd.underlying4 rfl)) rfl ⟨by first | (rw [HE.out]; done) | (rw [HE.out]; rfl), B28⟩
    by_cases hfull : (stCur rec (l.map StR.s)).1 < 1099511627776
    · exact hgo hin h2000 h16 hfull
    have HE := Lib.hid (stPut_full (c := c) (l := l.map StR.s) hin h2000 (by rw [HML.out]; exact h16) hfull)
    have HLD := fun (W : World) (hW : Below w.heap.size w W) => Lib.hid (sload_any rec A n d l W hin (hK.on hW) (hr.on hW) hc hn (by omega) hs)
    have HSU := fun W => Lib.hid (ssucc_any (stE rec (l.map StR.s)) W (stE_nn _ _).1 (stE_nn _ _).2)
    rw [seCur_of, seTgt_of] at HSU
    have hnn := (stCur_nn rec (l.map StR.s)).2.1
    generalize stPut rec c (l.map StR.s) = R at *
    generalize (stCur rec (l.map StR.s)).1 = S at *
    generalize stTgt rec (l.map StR.s) = TG at *
    generalize stE rec (l.map StR.s) = x at *
    have HEN := fun W => Lib.hid (send_any ⟨em, 0, 19⟩ W)
    have q1 : (1099511627776 : Int) < S + 1 := by omega
    clear hin hgo hs hr
    go_enter Tryd.func28, Tryd.ntmps28
    go_wp2_with (first
      | ((with_reducible refine wpList_at ⟨some 3, _, _, _, _, _⟩ ?_); refine wpList_box_row rfl _ _ rfl [.int .i64 rec] rfl ?_; intro w29 r3_29 s29 g29; have k29 : Below w.heap.size w w29 := grown_below g29 (Nat.le_refl _) (by simp); have B29 : Below w.heap.size w w29 := k29; have cr30 := r3_29.cell (j := 0) rfl)
      | ((with_reducible refine wpList_at ⟨some 5, _, _, _, _, _⟩ ?_); refine wpList_box_row rfl _ _ rfl [.slice A n d] rfl ?_; intro w30 r5_30 s30 g30; have k30 : Below w29.heap.size w29 w30 := grown_below g30 (Nat.le_refl _) (by simp); have B30 := B29.trans (k30.mono B29.size); have r3_30 := r3_29.on k30; clear r3_29; have cr30 := r3_30.cell (j := 0) rfl; have cr50 := r5_30.cell (j := 0) rfl)
      | (with_reducible refine wpList_alloc_row (o := ⟨some 6, _, _, _, _, _⟩) rfl _ rfl zeroA zero_ac ?_; intro w31 z6_31 s31 g31; have k31 : Below w30.heap.size w30 w31 := grown_below g31 (Nat.le_refl _) (by simp); have B31 := B30.trans (k31.mono B30.size); have r3_31 := r3_30.on k31; have r5_31 := r5_30.on k31; clear r3_30 r5_30; have cr30 := r3_31.cell (j := 0) rfl; have cr50 := r5_31.cell (j := 0) rfl)
      | (with_reducible refine wpList_alloc_row (o := ⟨some 7, _, _, _, _, _⟩) rfl _ rfl zeroO zero_so ?_; intro w32 z7_32 s32 g32; have k32 : Below w31.heap.size w31 w32 := grown_below g32 (Nat.le_refl _) (by simp); have B32 := B31.trans (k32.mono B31.size); have r3_32 := r3_31.on k32; have r5_32 := r5_31.on k32; have z6_32 := z6_31.on k32; clear r3_31 r5_31 z6_31; have cr30 := r3_32.cell (j := 0) rfl; have cr50 := r5_32.cell (j := 0) rfl)
      | (with_reducible refine wpList_alloc_row (o := ⟨some 8, _, _, _, _, _⟩) rfl _ rfl [.bool false] (by kernel_rfl) ?_; intro w33 z8_33 s33 g33; have l33r3 := r3_32.lt; have l33r5 := r5_32.lt; have l33z6 := z6_32.lt; have l33z7 := z7_32.lt; have lB33 := B32.size; have k33 : Below w32.heap.size w32 w33 := grown_below g33 (Nat.le_refl _) (by simp); have B33 := B32.trans (k33.mono B32.size); have r3_33 := r3_32.on k33; have r5_33 := r5_32.on k33; have z6_33 := z6_32.on k33; have z7_33 := z7_32.on k33; clear r3_32 r5_32 z6_32 z7_32; have cr30 := r3_33.cell (j := 0) rfl; have cr50 := r5_33.cell (j := 0) rfl))
    refine ((HX _).out).mono ?_
    rintro e _ ⟨rfl, rfl⟩
    go_wp2_with fail
    refine ((HLD _ B33).out).mono ?_
    rintro e w34 ⟨rfl, h34⟩
    have B34 := B33.trans (h34.mono B33.size)
    have r3_34 := r3_33.on h34
    have r5_34 := r5_33.on h34
    have z6_34 := z6_33.on h34
    have z7_34 := z7_33.on h34
    have z8_34 := z8_33.on h34
    clear r3_33 r5_33 z6_33 z7_33 z8_33
    have cr30 := r3_34.cell (j := 0) rfl
    have cr50 := r5_34.cell (j := 0) rfl
    go_wp2_with fail
    refine ((HSU _).out).mono ?_
    rintro e w35 ⟨rfl, h35⟩
    have B35 := B34.trans (h35.mono B34.size)
    have r3_35 := r3_34.on h35
    have r5_35 := r5_34.on h35
    have z6_35 := z6_34.on h35
    have z7_35 := z7_34.on h35
    have z8_35 := z8_34.on h35
    clear r3_34 r5_34 z6_34 z7_34 z8_34
    have cr30 := r3_35.cell (j := 0) rfl
    have cr50 := r5_35.cell (j := 0) rfl
    go_wp2_with (first
      | (with_reducible refine wpList_alloc_row (o := ⟨some 9, _, _, _, _, _⟩) rfl _ rfl [.int .i64 0] (by kernel_rfl) ?_; intro w36 z9_36 s36 g36; have l36r3 := r3_35.lt; have l36r5 := r5_35.lt; have l36z6 := z6_35.lt; have l36z7 := z7_35.lt; have l36z8 := z8_35.lt; have lB36 := B35.size; have k36 : Below w35.heap.size w35 w36 := grown_below g36 (Nat.le_refl _) (by simp); have B36 := B35.trans (k36.mono B35.size); have r3_36 := r3_35.on k36; have r5_36 := r5_35.on k36; have z6_36 := z6_35.on k36; have z7_36 := z7_35.on k36; have z8_36 := z8_35.on k36; clear r3_35 r5_35 z6_35 z7_35 z8_35; have cr30 := r3_36.cell (j := 0) rfl; have cr50 := r5_36.cell (j := 0) rfl)
      | ((with_reducible refine wpList_at ⟨none, .store _ (.tmp 9) _, _, _, _, _⟩ ?_); refine wpList_store_elem rfl _ _ _ rfl (w35.heap.size) 0 rfl _ _ z9_36 (.int .i64 TG) rfl rfl (by simp) (by kernel_rfl) ?_; intro w37 z9x_37 g37; have r3_37 := r3_36.kept g37 (by simp; omega); have r5_37 := r5_36.kept g37 (by simp; omega); have z6_37 := z6_36.kept g37 (by simp; omega); have z7_37 := z7_36.kept g37 (by simp; omega); have z8_37 := z8_36.kept g37 (by simp; omega); have z9_37 : Row w37 (w35.heap.size) _ [.int .i64 TG] := z9x_37; have B37 := below_kept B36 g37 B36.size (by rintro q hq; cases hq; omega); clear r3_36 r5_36 z6_36 z7_36 z8_36; have cr30 := r3_37.cell (j := 0) rfl; have cr50 := r5_37.cell (j := 0) rfl))
    refine ((HEN _).out).mono ?_
    rintro e w38 ⟨rfl, h38⟩
    have B38 := B37.trans (h38.mono B37.size)
    have r3_38 := r3_37.on h38
    have r5_38 := r5_37.on h38
    have z6_38 := z6_37.on h38
    have z7_38 := z7_37.on h38
    have z8_38 := z8_37.on h38
    have z9_38 := z9_37.on h38
    clear r3_37 r5_37 z6_37 z7_37 z8_37 z9_37
    have cr30 := r3_38.cell (j := 0) rfl
    have cr50 := r5_38.cell (j := 0) rfl
    go_wp2_with (first
      | ((with_reducible refine wpList_at ⟨none, .store _ (.tmp 6) _, _, _, _, _⟩ ?_); refine wpList_store_all rfl _ _ _ rfl (w30.heap.size) rfl _ _ z6_38 (noA.cs) rfl (noA.cs_one) rfl (by kernel_rfl) ?_; intro w39 z6_39 g39; have z7_39 := z7_38.kept g39 (by simp; omega); have z8_39 := z8_38.kept g39 (by simp; omega); have B39 := below_kept B38 g39 B38.size (by rintro q hq; cases hq; omega); clear z7_38 z8_38)
      | ((with_reducible refine wpList_at ⟨none, .store _ (.tmp 7) _, _, _, _, _⟩ ?_); refine wpList_store_all rfl _ _ _ rfl (w31.heap.size) rfl _ _ z7_39 ((⟨em, 0, 19⟩ : StO).cs) rfl ((⟨em, 0, 19⟩ : StO).cs_one) rfl (by kernel_rfl) ?_; intro w40 z7_40 g40; have z6_40 := z6_39.kept g40 (by simp; omega); have z8_40 := z8_39.kept g40 (by simp; omega); have B40 := below_kept B39 g40 B39.size (by rintro q hq; cases hq; omega); clear z6_39 z8_39)
      | ((with_reducible refine wpList_at ⟨none, .store _ (.tmp 8) _, _, _, _, _⟩ ?_); refine wpList_store_elem rfl _ _ _ rfl (w32.heap.size) 0 rfl _ _ z8_40 (.bool true) rfl rfl (by simp) (by kernel_rfl) ?_; intro w41 z8x_41 g41; have z6_41 := z6_40.kept g41 (by simp; omega); have z7_41 := z7_40.kept g41 (by simp; omega); have z8_41 : Row w41 (w32.heap.size) _ [.bool true] := z8x_41; have B41 := below_kept B40 g41 B40.size (by rintro q hq; cases hq; omega); clear z6_40 z7_40))
    exact bodyPost_ret (results_cells3 Tryd.results28 _ _ _ _ _ _ _ _ rfl rfl rfl (load_ac z6_41) (load_so z7_41) (load_one (z8_41.cell (j := 0) rfl) _ Tryd.underlying4 rfl)) rfl ⟨by first | (rw [HE.out]; done) | (rw [HE.out]; rfl), B41⟩
end Go.Proofs.YtfclifolniefpaaDoor
