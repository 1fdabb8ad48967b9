/-
  The law file's sanity example: a walk. Condition: the table of constants as laid.
-/
import Derived.Test.YtfclifolniefpaaDoorSnG
import Derived.Test.YtfclifolniefpaaDoorStT
import Derived.Test.YtfclifolniefpaaDoorStS
import Derived.Test.YtfclifolniefpaaDoorStQA
set_option linter.unusedSimpArgs false
set_option linter.unusedVariables false
namespace Go.Proofs.YtfclifolniefpaaDoor
open Go.RowKit

theorem exec_eqlS {ρ : Operand → Value} {o : Oper} (w : World) (x y : Operand) (ho : o.op = .binOp .eql 33 x y 33) (a : StO) (h1 : ρ x = .agg a.cs.toArray) (h2 : ρ y = .agg a.cs.toArray) :
    (execOp ρ o).run Tryd.prog w = .ok (.value (.bool true)) w := by
  have h := exec_eqlO (ρ := ρ) (o := o) w x y ho a a h1 h2
  rw [stEq_self] at h
  exact h
set_option maxRecDepth 100000 in
set_option maxHeartbeats 4000000 in
theorem san10_any (w : World) (hK : Consts w) : Calls Tryd.prog 8 #[] w (GivesX (.bool true) w) := by
  obtain ⟨l2, hl2⟩ := sn_put2
  go_enter Tryd.func8, Tryd.ntmps8
  go_wp2_with fail
  refine (lnew_any 128 w).mono ?_
  rintro e w1 ⟨A1, n1, c1, rfl, fl1, B1⟩
  unfold flv
  have hlB1 := B1.size
  go_wp2_with (first
    | (with_reducible refine wpList_alloc_row (o := ⟨some 1, _, _, _, _, _⟩) rfl _ rfl [.slice none 0 0] (by kernel_rfl) ?_; intro w6 fr_6 s6 g6; have k6 : Below w1.heap.size w1 w6 := grown_below g6 (Nat.le_refl _) (by simp); have B6 := B1.trans (k6.mono B1.size); have fl_6 := fl1.on k6)
    | ((with_reducible refine wpList_at ⟨none, .store _ (.tmp 1) _, _, _, _, _⟩ ?_); refine wpList_store_all rfl _ _ _ rfl (w1.heap.size) rfl _ _ fr_6 ([.slice A1 n1 c1]) rfl (slice_one _ _ _) rfl (by kernel_rfl) ?_; intro w7 fr_7 g7; have fl_7 := fl_kept fl_6 g7 (fun h0 ad e => Nat.ne_of_lt (fl_lt fl1 h0 ad e)); have B7 := below_kept B6 g7 B6.size (by rintro q hq; cases hq; omega); have sz7 := g7.size; clear fl_6)
    | ((with_reducible refine wpList_at ⟨some 23, _, _, _, _, _⟩ ?_); refine wpList_valueG rfl _ (by exact exec_loadFl _ _ rfl (w1.heap.size) rfl A1 n1 c1 fr_7) ?_))
  have l8fr := fr_7.lt
  have lB8 := B7.size
  refine (lget_any _ _ _ (flNew 128) 0 _ rfl (hK.on B7) fl_7 (sn_sz snZ snZ sn_Zs sn_Zs)).mono ?_
  rintro e w8 ⟨rfl, h8⟩
  have hs8 := h8.size
  have B8 := B7.trans (h8.mono B7.size)
  have fl_8 := fl_7.on h8
  have fr_8 := fr_7.on h8
  clear fl_7 fr_7
  rw [sn_get0]
  go_wp2_with (first
    | (with_reducible refine wpList_alloc_row (o := ⟨some 3, _, _, _, _, _⟩) rfl _ rfl zeroO zero_so ?_; intro w9 r9 s9 g9)
    | ((with_reducible refine wpList_at ⟨none, .store _ (.tmp 3) _, _, _, _, _⟩ ?_); refine wpList_store_all rfl _ _ _ rfl w8.heap.size rfl _ _ r9 ((⟨em, 0, 13⟩ : StO).cs) rfl ((⟨em, 0, 13⟩ : StO).cs_one) rfl (by kernel_rfl) ?_; intro w10 o3_10 g10; have k10 : Below w8.heap.size w8 w10 := below_kept (grown_below g9 (Nat.le_refl _) (by simp)) g10 (Nat.le_of_lt s9) (by rintro q hq; cases hq; exact Nat.le_refl _); have B10 := B8.trans (k10.mono B8.size); have fl_10 := fl_8.on k10; have fr_10 := fr_8.on k10; clear fl_8 fr_8; clear r9 g9 g10; have s10 := o3_10.lt)
    | ((with_reducible refine wpList_at ⟨some 28, _, _, _, _, _⟩ ?_); refine wpList_valueG rfl _ (by exact exec_loadFl _ _ rfl (w1.heap.size) rfl A1 n1 c1 fr_10) ?_))
  have l11fr := fr_10.lt
  have l11o3 := o3_10.lt
  have lB11 := B10.size
  refine (lput_any _ _ _ (flNew 128) 0 snAB (-1) 0 _ rfl (hK.on B10) fl_10 (sn_sz snZ snZ sn_Zs sn_Zs) (by have h := (fl_10).len; have h2 := (show (flNew 128).length = 128 from sn_len snZ snZ); omega) (by decide) (by omega) (by omega) (by omega) (by omega)).mono ?_
  rintro e w11 ⟨A2, n2, c2, E2, m2, d2, rfl, fl11, _, _, hm2, h11⟩
  have hs11 := h11.size
  have B11 := B10.trans (h11.mono B10.size)
  have fr_11 := fr_10.on h11
  have o3_11 := o3_10.on h11
  clear fr_10 o3_10
  unfold flv
  rw [sn_put1.1] at fl11
  rw [sn_put1.1] at hm2
  have hm2' : m2 = 18 := by rw [← hm2]; exact sn_put1.2
  subst hm2'
  rw [sn_put1.1]
  clear hm2
  go_wp2_with (first
    | (with_reducible refine wpList_alloc_row (o := ⟨some 5, _, _, _, _, _⟩) rfl _ rfl zeroO zero_so ?_; intro w12 o5_12 s12 g12; have k12 : Below w11.heap.size w11 w12 := grown_below g12 (Nat.le_refl _) (by simp); have B12 := B11.trans (k12.mono B11.size); have fr_12 := fr_11.on k12; have o3_12 := o3_11.on k12; have fl_12 := fl11.on k12; clear fr_11 o3_11)
    | ((with_reducible refine wpList_at ⟨none, .store _ (.tmp 1) _, _, _, _, _⟩ ?_); refine wpList_store_all rfl _ _ _ rfl (w1.heap.size) rfl _ _ fr_12 ([.slice A2 n2 c2]) rfl (slice_one _ _ _) rfl (by kernel_rfl) ?_; intro w13 fr_13 g13; have o3_13 := o3_12.kept g13 (by simp; omega); have fl_13 := fl_kept fl_12 g13 (fun h0 => fl_ne fl_12 h0 fr_12); have o5_13 := o5_12.kept g13 (by simp; omega); have B13 := below_kept B12 g13 B12.size (by rintro q hq; cases hq; omega); have sz13 := g13.size; clear o3_12 fl_12 o5_12)
    | ((with_reducible refine wpList_at ⟨none, .store _ (.tmp 5) _, _, _, _, _⟩ ?_); refine wpList_store_all rfl _ _ _ rfl (w11.heap.size) rfl _ _ o5_13 (snO.cs) rfl (snO.cs_one) rfl (by kernel_rfl) ?_; intro w14 o5_14 g14; have fr_14 := fr_13.kept g14 (by simp; omega); have o3_14 := o3_13.kept g14 (by simp; omega); have fl_14 := fl_kept fl_13 g14 (fun h0 ad e => Nat.ne_of_lt (fl_lt fl11 h0 ad e)); have B14 := below_kept B13 g14 B13.size (by rintro q hq; cases hq; omega); have sz14 := g14.size; clear fr_13 o3_13 fl_13)
    | ((with_reducible refine wpList_at ⟨some 36, _, _, _, _, _⟩ ?_); refine wpList_valueG rfl _ (by exact exec_loadFl _ _ rfl (w1.heap.size) rfl A2 n2 c2 fr_14) ?_))
  have l15fr := fr_14.lt
  have l15o3 := o3_14.lt
  have l15o5 := o5_14.lt
  have lB15 := B14.size
  refine (lget_any _ _ _ (snF snS1 snZ) 0 _ rfl (hK.on B14) fl_14 (sn_sz snS1 snZ sn_S1 sn_Zs)).mono ?_
  rintro e w15 ⟨rfl, h15⟩
  have hs15 := h15.size
  have B15 := B14.trans (h15.mono B14.size)
  have fr_15 := fr_14.on h15
  have o3_15 := o3_14.on h15
  have fl_15 := fl_14.on h15
  have o5_15 := o5_14.on h15
  clear fr_14 o3_14 fl_14 o5_14
  rw [sn_get1]
  go_wp2_with (first
    | (with_reducible refine wpList_alloc_row (o := ⟨some 8, _, _, _, _, _⟩) rfl _ rfl zeroO zero_so ?_; intro w16 r16 s16 g16)
    | ((with_reducible refine wpList_at ⟨none, .store _ (.tmp 8) _, _, _, _, _⟩ ?_); refine wpList_store_all rfl _ _ _ rfl w15.heap.size rfl _ _ r16 (snO.cs) rfl (snO.cs_one) rfl (by kernel_rfl) ?_; intro w17 o8_17 g17; have k17 : Below w15.heap.size w15 w17 := below_kept (grown_below g16 (Nat.le_refl _) (by simp)) g17 (Nat.le_of_lt s16) (by rintro q hq; cases hq; exact Nat.le_refl _); have B17 := B15.trans (k17.mono B15.size); have fr_17 := fr_15.on k17; have o3_17 := o3_15.on k17; have fl_17 := fl_15.on k17; have o5_17 := o5_15.on k17; clear fr_15 o3_15 fl_15 o5_15; clear r16 g16 g17; have s17 := o8_17.lt)
    | ((with_reducible refine wpList_at ⟨some 41, _, _, _, _, _⟩ ?_); refine wpList_valueG rfl _ (by exact exec_loadFl _ _ rfl (w1.heap.size) rfl A2 n2 c2 fr_17) ?_))
  have l18fr := fr_17.lt
  have l18o3 := o3_17.lt
  have l18o5 := o5_17.lt
  have l18o8 := o8_17.lt
  have lB18 := B17.size
  refine (lput_any _ _ _ (snF snS1 snZ) 0 snCD 17 3 _ rfl (hK.on B17) fl_17 (sn_sz snS1 snZ sn_S1 sn_Zs) (by have h := (fl_17).len; have h2 := sn_len snS1 snZ; omega) (by decide) (by omega) (by omega) (by omega) (by omega)).mono ?_
  rintro e w18 ⟨A3, n3, c3, E3, m3, d3, rfl, fl18, _, _, hm3, h18⟩
  have hs18 := h18.size
  have B18 := B17.trans (h18.mono B17.size)
  have fr_18 := fr_17.on h18
  have o3_18 := o3_17.on h18
  have o5_18 := o5_17.on h18
  have o8_18 := o8_17.on h18
  clear fr_17 o3_17 o5_17 o8_17
  unfold flv
  rw [hl2] at fl18
  rw [hl2]
  clear hm3 hl2
  go_wp2_with (first
    | (with_reducible refine wpList_alloc_row (o := ⟨some 10, _, _, _, _, _⟩) rfl _ rfl zeroO zero_so ?_; intro w19 o10_19 s19 g19; have k19 : Below w18.heap.size w18 w19 := grown_below g19 (Nat.le_refl _) (by simp); have B19 := B18.trans (k19.mono B18.size); have fr_19 := fr_18.on k19; have o3_19 := o3_18.on k19; have o5_19 := o5_18.on k19; have o8_19 := o8_18.on k19; have fl_19 := fl18.on k19; clear fr_18 o3_18 o5_18 o8_18)
    | ((with_reducible refine wpList_at ⟨none, .store _ (.tmp 1) _, _, _, _, _⟩ ?_); refine wpList_store_all rfl _ _ _ rfl (w1.heap.size) rfl _ _ fr_19 ([.slice A3 n3 c3]) rfl (slice_one _ _ _) rfl (by kernel_rfl) ?_; intro w20 fr_20 g20; have o3_20 := o3_19.kept g20 (by simp; omega); have o5_20 := o5_19.kept g20 (by simp; omega); have o8_20 := o8_19.kept g20 (by simp; omega); have fl_20 := fl_kept fl_19 g20 (fun h0 => fl_ne fl_19 h0 fr_19); have o10_20 := o10_19.kept g20 (by simp; omega); have B20 := below_kept B19 g20 B19.size (by rintro q hq; cases hq; omega); have sz20 := g20.size; clear o3_19 o5_19 o8_19 fl_19 o10_19)
    | ((with_reducible refine wpList_at ⟨none, .store _ (.tmp 10) _, _, _, _, _⟩ ?_); refine wpList_store_all rfl _ _ _ rfl (w18.heap.size) rfl _ _ o10_20 (noO.cs) rfl (noO.cs_one) rfl (by kernel_rfl) ?_; intro w21 o10_21 g21; have fr_21 := fr_20.kept g21 (by simp; omega); have o3_21 := o3_20.kept g21 (by simp; omega); have o5_21 := o5_20.kept g21 (by simp; omega); have o8_21 := o8_20.kept g21 (by simp; omega); have fl_21 := fl_kept fl_20 g21 (fun h0 ad e => Nat.ne_of_lt (fl_lt fl18 h0 ad e)); have B21 := below_kept B20 g21 B20.size (by rintro q hq; cases hq; omega); have sz21 := g21.size; clear fr_20 o3_20 o5_20 o8_20 fl_20)
    | ((with_reducible refine wpList_at ⟨some 49, _, _, _, _, _⟩ ?_); refine wpList_valueG rfl _ (by exact exec_loadFl _ _ rfl (w1.heap.size) rfl A3 n3 c3 fr_21) ?_))
  have l22fr := fr_21.lt
  have l22o3 := o3_21.lt
  have l22o5 := o5_21.lt
  have l22o8 := o8_21.lt
  have l22o10 := o10_21.lt
  have lB22 := B21.size
  refine (lget_any _ _ _ (snF snS1 snX) 0 _ rfl (hK.on B21) fl_21 (sn_sz snS1 snX sn_S1 sn_X)).mono ?_
  rintro e w22 ⟨rfl, h22⟩
  have hs22 := h22.size
  have B22 := B21.trans (h22.mono B21.size)
  have fr_22 := fr_21.on h22
  have o3_22 := o3_21.on h22
  have o5_22 := o5_21.on h22
  have o8_22 := o8_21.on h22
  have fl_22 := fl_21.on h22
  have o10_22 := o10_21.on h22
  clear fr_21 o3_21 o5_21 o8_21 fl_21 o10_21
  rw [sn_get2]
  go_wp2_with (first
    | (with_reducible refine wpList_alloc_row (o := ⟨some 13, _, _, _, _, _⟩) rfl _ rfl zeroO zero_so ?_; intro w23 r23 s23 g23)
    | ((with_reducible refine wpList_at ⟨none, .store _ (.tmp 13) _, _, _, _, _⟩ ?_); refine wpList_store_all rfl _ _ _ rfl w22.heap.size rfl _ _ r23 (snO.cs) rfl (snO.cs_one) rfl (by kernel_rfl) ?_; intro w24 o13_24 g24; have k24 : Below w22.heap.size w22 w24 := below_kept (grown_below g23 (Nat.le_refl _) (by simp)) g24 (Nat.le_of_lt s23) (by rintro q hq; cases hq; exact Nat.le_refl _); have B24 := B22.trans (k24.mono B22.size); have fr_24 := fr_22.on k24; have o3_24 := o3_22.on k24; have o5_24 := o5_22.on k24; have o8_24 := o8_22.on k24; have fl_24 := fl_22.on k24; have o10_24 := o10_22.on k24; clear fr_22 o3_22 o5_22 o8_22 fl_22 o10_22; clear r23 g23 g24; have s24 := o13_24.lt))
  have l25fr := fr_24.lt
  have l25o3 := o3_24.lt
  have l25o5 := o5_24.lt
  have l25o8 := o8_24.lt
  have l25o10 := o10_24.lt
  have l25o13 := o13_24.lt
  have lB25 := B24.size
  refine (sget_any 4 none 0 0 [] _ (hK.on B24) Reads.nil_ (Nat.le_refl _) (by omega) (by intro r h; cases h)).mono ?_
  rintro e w25 ⟨rfl, h25⟩
  have hs25 := h25.size
  have B25 := B24.trans (h25.mono B24.size)
  have fr_25 := fr_24.on h25
  have o3_25 := o3_24.on h25
  have o5_25 := o5_24.on h25
  have o8_25 := o8_24.on h25
  have o10_25 := o10_24.on h25
  have o13_25 := o13_24.on h25
  clear fr_24 o3_24 o5_24 o8_24 o10_24 o13_24
  rw [show stGet 4 (([] : List StR).map StR.s) = (noA, ⟨em, 0, 1⟩, true) from rfl]
  go_wp2_with (first
    | (with_reducible refine wpList_alloc_row (o := ⟨some 15, _, _, _, _, _⟩) rfl _ rfl zeroA zero_ac ?_; intro w26 a15_26 s26 g26; have k26 : Below w25.heap.size w25 w26 := grown_below g26 (Nat.le_refl _) (by simp); have B26 := B25.trans (k26.mono B25.size); have fr_26 := fr_25.on k26; have o3_26 := o3_25.on k26; have o5_26 := o5_25.on k26; have o8_26 := o8_25.on k26; have o10_26 := o10_25.on k26; have o13_26 := o13_25.on k26; clear fr_25 o3_25 o5_25 o8_25 o10_25 o13_25)
    | (with_reducible refine wpList_alloc_row (o := ⟨some 16, _, _, _, _, _⟩) rfl _ rfl zeroO zero_so ?_; intro w27 o16_27 s27 g27; have k27 : Below w26.heap.size w26 w27 := grown_below g27 (Nat.le_refl _) (by simp); have B27 := B26.trans (k27.mono B26.size); have fr_27 := fr_26.on k27; have o3_27 := o3_26.on k27; have o5_27 := o5_26.on k27; have o8_27 := o8_26.on k27; have o10_27 := o10_26.on k27; have o13_27 := o13_26.on k27; have a15_27 := a15_26.on k27; clear fr_26 o3_26 o5_26 o8_26 o10_26 o13_26 a15_26)
    | ((with_reducible refine wpList_at ⟨none, .store _ (.tmp 15) _, _, _, _, _⟩ ?_); refine wpList_store_all rfl _ _ _ rfl (w25.heap.size) rfl _ _ a15_27 (noA.cs) rfl (noA.cs_one) rfl (by kernel_rfl) ?_; intro w28 a15_28 g28; have fr_28 := fr_27.kept g28 (by simp; omega); have o3_28 := o3_27.kept g28 (by simp; omega); have o5_28 := o5_27.kept g28 (by simp; omega); have o8_28 := o8_27.kept g28 (by simp; omega); have o10_28 := o10_27.kept g28 (by simp; omega); have o13_28 := o13_27.kept g28 (by simp; omega); have o16_28 := o16_27.kept g28 (by simp; omega); have B28 := below_kept B27 g28 B27.size (by rintro q hq; cases hq; omega); have sz28 := g28.size; clear fr_27 o3_27 o5_27 o8_27 o10_27 o13_27 o16_27)
    | ((with_reducible refine wpList_at ⟨none, .store _ (.tmp 16) _, _, _, _, _⟩ ?_); refine wpList_store_all rfl _ _ _ rfl (w26.heap.size) rfl _ _ o16_28 ((⟨em, 0, 1⟩ : StO).cs) rfl ((⟨em, 0, 1⟩ : StO).cs_one) rfl (by kernel_rfl) ?_; intro w29 o16_29 g29; have fr_29 := fr_28.kept g29 (by simp; omega); have o3_29 := o3_28.kept g29 (by simp; omega); have o5_29 := o5_28.kept g29 (by simp; omega); have o8_29 := o8_28.kept g29 (by simp; omega); have o10_29 := o10_28.kept g29 (by simp; omega); have o13_29 := o13_28.kept g29 (by simp; omega); have a15_29 := a15_28.kept g29 (by simp; omega); have B29 := below_kept B28 g29 B28.size (by rintro q hq; cases hq; omega); have sz29 := g29.size; clear fr_28 o3_28 o5_28 o8_28 o10_28 o13_28 a15_28; have c3 := o3_29.cell (j := 2) rfl; have c16 := o16_29.cell (j := 2) rfl)
    | ((with_reducible refine wpList_at ⟨some 69, _, _, _, _, _⟩ ?_); refine wpList_valueG rfl _ (by exact exec_loadO _ _ rfl (w11.heap.size) rfl snO o5_29) ?_)
    | ((with_reducible refine wpList_at ⟨some 79, _, _, _, _, _⟩ ?_); refine wpList_valueG rfl _ (by exact exec_loadO _ _ rfl (w15.heap.size) rfl snO o8_29) ?_)
    | ((with_reducible refine wpList_at ⟨some 80, _, _, _, _, _⟩ ?_); refine wpList_valueG rfl _ (by exact exec_loadO _ _ rfl (w11.heap.size) rfl snO o5_29) ?_)
    | ((with_reducible refine wpList_at ⟨some 88, _, _, _, _, _⟩ ?_); refine wpList_valueG rfl _ (by exact exec_loadO _ _ rfl (w22.heap.size) rfl snO o13_29) ?_)
    | ((with_reducible refine wpList_at ⟨some 89, _, _, _, _, _⟩ ?_); refine wpList_valueG rfl _ (by exact exec_loadO _ _ rfl (w11.heap.size) rfl snO o5_29) ?_)
    | ((with_reducible refine wpList_at ⟨some 71, _, _, _, _, _⟩ ?_); refine wpList_valueG rfl _ (by exact exec_eqlS _ _ _ rfl snO rfl rfl) ?_)
    | ((with_reducible refine wpList_at ⟨some 81, _, _, _, _, _⟩ ?_); refine wpList_valueG rfl _ (by exact exec_eqlS _ _ _ rfl snO rfl rfl) ?_)
    | ((with_reducible refine wpList_at ⟨some 90, _, _, _, _, _⟩ ?_); refine wpList_valueG rfl _ (by exact exec_eqlS _ _ _ rfl snO rfl rfl) ?_))
  refine (sfirst_any 1 1 _).mono ?_
  rintro e _ ⟨rfl, rfl⟩
  go_wp2_with fail
  refine (sfirst_any 4 0 _).mono ?_
  rintro e _ ⟨rfl, rfl⟩
  go_wp2_with fail
  go_ret
  exact ⟨rfl, B29⟩
end Go.Proofs.YtfclifolniefpaaDoor
