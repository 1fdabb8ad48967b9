/-
  RatchetMatchesSpec: a walk. No condition.
-/
import Derived.Test.YtfcbcclcmgheeaaSan11
set_option linter.unusedSimpArgs false
set_option linter.unusedVariables false
namespace Go.Proofs.Ytfcbcclcmgheeaa
open Go.RowKit

set_option maxRecDepth 100000 in
set_option maxHeartbeats 4000000 in
theorem w111_any (bank bits target : Int) (A : Option Addr) (n d : Nat) (l : List DvR) (w : World) (hr : Reads w w.heap.size 2 A n (rrs l)) (hnd : n ≤ d) (hn : n ≤ 9223372036854775807) :
    Calls Try.prog 3 #[.agg #[.int .i64 bank, .int .i64 bits, .int .i64 target, .slice A n d]] w (GivesX (.bool true) w) := by
  have HEL : ∀ (w : World) (ρ : Operand → Value) (o : Oper) (x y : Operand) (a : RtO), o.op = .binOp .eql 30 x y 30 → ρ x = .agg a.cs.toArray → ρ y = .agg a.cs.toArray → (execOp ρ o).run Try.prog w = .ok (.value (.bool true)) w := fun w ρ o x y a h1 h2 h3 => by
    rw [← loEq_self a]; exact exec_eqlL w x y h1 a a h2 h3
  have HEA : ∀ (w : World) (ρ : Operand → Value) (o : Oper) (x y : Operand) (a : DvA), o.op = .binOp .eql 27 x y 27 → ρ x = .agg a.cs.toArray → ρ y = .agg a.cs.toArray → (execOp ρ o).run Try.prog w = .ok (.value (.bool true)) w := fun w ρ o x y a h1 h2 h3 => by
    rw [← acEq_self a]; exact exec_eqlA w x y h1 a a h2 h3
  go_enter Try.func3, Try.ntmps3
  go_wp2_with ((with_reducible refine wpList_at ⟨some 1, _, _, _, _, _⟩ ?_); refine wpList_box_row rfl _ _ rfl [.int .i64 bank, .int .i64 bits, .int .i64 target, .slice A n d] rfl ?_; intro w1 ri_1 s1 g1; have k1 : Below w.heap.size w w1 := grown_below g1 (Nat.le_refl _) (by simp); have B1 : Below w.heap.size w w1 := k1; have ci0 := ri_1.cell (j := 0) rfl; have ci1 := ri_1.cell (j := 1) rfl; have ci2 := ri_1.cell (j := 2) rfl; have ci3 := ri_1.cell (j := 3) rfl)
  refine ((san11_any _)).mono ?_
  rintro e w2 ⟨rfl, h2⟩
  have B2 := B1.trans (h2.mono B1.size)
  have ri_2 := ri_1.on h2
  clear ri_1
  have sz2 := h2.size
  by_cases hbig : 200 < n
  · have q : decide ((200 : Int) < (n : Int)) = true := decide_eq_true (by omega)
    go_wp2_with fail
    go_ret
    exact ⟨rfl, B2⟩
  · have q : decide ((200 : Int) < (n : Int)) = false := decide_eq_false (by omega)
    have HR1 := fun W h => Lib.hid (rLevel_any bank bits A n d l W hnd (hr.on h))
    have HR2 := fun W h => Lib.hid (cLevel_any bank bits A n d l W (by omega) (hr.on h))
    have HR3 := fun W h => Lib.hid (rRaise_any bank bits target A n d l W hnd (hr.on h))
    have HR4 := fun W h => Lib.hid (cRaise_any bank bits target A n d l W (by omega) (hr.on h))
    generalize rtLvA bank bits (rxs l) = R at *
    generalize rtRsA bank bits target (rxs l) = Q at *
    clear hr
    obtain ⟨a1, o1, d1⟩ := R
    obtain ⟨a2, o2, d2⟩ := Q
    go_wp2_with fail
    refine ((HR1 _ B2).out).mono ?_
    rintro e w3 ⟨rfl, h3⟩
    have B3 := B2.trans (h3.mono B2.size)
    have ri_3 := ri_2.on h3
    clear ri_2
    have sz3 := h3.size
    go_wp2_with (first
      | (with_reducible refine wpList_alloc_row (o := ⟨some 8, _, _, _, _, _⟩) rfl _ rfl zeroA zero_ac ?_; intro w4 ra_4 s4 g4; have k4 : Below w3.heap.size w3 w4 := grown_below g4 (Nat.le_refl _) (by simp); have B4 := B3.trans (k4.mono B3.size); have ri_4 := ri_3.on k4; clear ri_3)
      | (with_reducible refine wpList_alloc_row (o := ⟨some 9, _, _, _, _, _⟩) rfl _ rfl zeroLO zero_lo ?_; intro w5 rb_5 s5 g5; have k5 : Below w4.heap.size w4 w5 := grown_below g5 (Nat.le_refl _) (by simp); have B5 := B4.trans (k5.mono B4.size); have ri_5 := ri_4.on k5; have ra_5 := ra_4.on k5; clear ri_4 ra_4)
      | ((with_reducible refine wpList_at ⟨none, .store _ (.tmp 8) _, _, _, _, _⟩ ?_); refine wpList_store_all rfl _ _ _ rfl (w3.heap.size) rfl _ _ ra_5 (a1.cs) rfl (a1.cs_one) rfl (by kernel_rfl) ?_; intro w6 ra_6 g6; have ri_6 := ri_5.kept g6 (by simp; omega); have rb_6 := rb_5.kept g6 (by simp; omega); have B6 := below_kept B5 g6 B5.size (by rintro q hq; cases hq; omega); have sz6 := g6.size; clear ri_5 rb_5)
      | ((with_reducible refine wpList_at ⟨none, .store _ (.tmp 9) _, _, _, _, _⟩ ?_); refine wpList_store_all rfl _ _ _ rfl (w4.heap.size) rfl _ _ rb_6 (o1.cs) rfl (o1.cs_one) rfl (by kernel_rfl) ?_; intro w7 rb_7 g7; have ri_7 := ri_6.kept g7 (by simp; omega); have ra_7 := ra_6.kept g7 (by simp; omega); have B7 := below_kept B6 g7 B6.size (by rintro q hq; cases hq; omega); have sz7 := g7.size; clear ri_6 ra_6))
    refine ((HR2 _ B7).out).mono ?_
    rintro e w8 ⟨rfl, h8⟩
    have B8 := B7.trans (h8.mono B7.size)
    have ri_8 := ri_7.on h8
    have ra_8 := ra_7.on h8
    have rb_8 := rb_7.on h8
    clear ri_7 ra_7 rb_7
    have sz8 := h8.size
    go_wp2_with (first
      | (with_reducible refine wpList_alloc_row (o := ⟨some 11, _, _, _, _, _⟩) rfl _ rfl zeroA zero_ac ?_; intro w9 rc_9 s9 g9; have k9 : Below w8.heap.size w8 w9 := grown_below g9 (Nat.le_refl _) (by simp); have B9 := B8.trans (k9.mono B8.size); have ri_9 := ri_8.on k9; have ra_9 := ra_8.on k9; have rb_9 := rb_8.on k9; clear ri_8 ra_8 rb_8)
      | (with_reducible refine wpList_alloc_row (o := ⟨some 12, _, _, _, _, _⟩) rfl _ rfl zeroLO zero_lo ?_; intro w10 rd_10 s10 g10; have k10 : Below w9.heap.size w9 w10 := grown_below g10 (Nat.le_refl _) (by simp); have B10 := B9.trans (k10.mono B9.size); have ri_10 := ri_9.on k10; have ra_10 := ra_9.on k10; have rb_10 := rb_9.on k10; have rc_10 := rc_9.on k10; clear ri_9 ra_9 rb_9 rc_9)
      | ((with_reducible refine wpList_at ⟨none, .store _ (.tmp 11) _, _, _, _, _⟩ ?_); refine wpList_store_all rfl _ _ _ rfl (w8.heap.size) rfl _ _ rc_10 (a1.cs) rfl (a1.cs_one) rfl (by kernel_rfl) ?_; intro w11 rc_11 g11; have ri_11 := ri_10.kept g11 (by simp; omega); have ra_11 := ra_10.kept g11 (by simp; omega); have rb_11 := rb_10.kept g11 (by simp; omega); have rd_11 := rd_10.kept g11 (by simp; omega); have B11 := below_kept B10 g11 B10.size (by rintro q hq; cases hq; omega); have sz11 := g11.size; clear ri_10 ra_10 rb_10 rd_10)
      | ((with_reducible refine wpList_at ⟨none, .store _ (.tmp 12) _, _, _, _, _⟩ ?_); refine wpList_store_all rfl _ _ _ rfl (w9.heap.size) rfl _ _ rd_11 (o1.cs) rfl (o1.cs_one) rfl (by kernel_rfl) ?_; intro w12 rd_12 g12; have ri_12 := ri_11.kept g12 (by simp; omega); have ra_12 := ra_11.kept g12 (by simp; omega); have rb_12 := rb_11.kept g12 (by simp; omega); have rc_12 := rc_11.kept g12 (by simp; omega); have B12 := below_kept B11 g12 B11.size (by rintro q hq; cases hq; omega); have sz12 := g12.size; clear ri_11 ra_11 rb_11 rc_11))
    refine ((HR3 _ B12).out).mono ?_
    rintro e w13 ⟨rfl, h13⟩
    have B13 := B12.trans (h13.mono B12.size)
    have ri_13 := ri_12.on h13
    have ra_13 := ra_12.on h13
    have rb_13 := rb_12.on h13
    have rc_13 := rc_12.on h13
    have rd_13 := rd_12.on h13
    clear ri_12 ra_12 rb_12 rc_12 rd_12
    have sz13 := h13.size
    go_wp2_with (first
      | (with_reducible refine wpList_alloc_row (o := ⟨some 14, _, _, _, _, _⟩) rfl _ rfl zeroA zero_ac ?_; intro w14 re_14 s14 g14; have k14 : Below w13.heap.size w13 w14 := grown_below g14 (Nat.le_refl _) (by simp); have B14 := B13.trans (k14.mono B13.size); have ri_14 := ri_13.on k14; have ra_14 := ra_13.on k14; have rb_14 := rb_13.on k14; have rc_14 := rc_13.on k14; have rd_14 := rd_13.on k14; clear ri_13 ra_13 rb_13 rc_13 rd_13)
      | (with_reducible refine wpList_alloc_row (o := ⟨some 15, _, _, _, _, _⟩) rfl _ rfl zeroLO zero_lo ?_; intro w15 rf_15 s15 g15; have k15 : Below w14.heap.size w14 w15 := grown_below g15 (Nat.le_refl _) (by simp); have B15 := B14.trans (k15.mono B14.size); have ri_15 := ri_14.on k15; have ra_15 := ra_14.on k15; have rb_15 := rb_14.on k15; have rc_15 := rc_14.on k15; have rd_15 := rd_14.on k15; have re_15 := re_14.on k15; clear ri_14 ra_14 rb_14 rc_14 rd_14 re_14)
      | ((with_reducible refine wpList_at ⟨none, .store _ (.tmp 14) _, _, _, _, _⟩ ?_); refine wpList_store_all rfl _ _ _ rfl (w13.heap.size) rfl _ _ re_15 (a2.cs) rfl (a2.cs_one) rfl (by kernel_rfl) ?_; intro w16 re_16 g16; have ri_16 := ri_15.kept g16 (by simp; omega); have ra_16 := ra_15.kept g16 (by simp; omega); have rb_16 := rb_15.kept g16 (by simp; omega); have rc_16 := rc_15.kept g16 (by simp; omega); have rd_16 := rd_15.kept g16 (by simp; omega); have rf_16 := rf_15.kept g16 (by simp; omega); have B16 := below_kept B15 g16 B15.size (by rintro q hq; cases hq; omega); have sz16 := g16.size; clear ri_15 ra_15 rb_15 rc_15 rd_15 rf_15)
      | ((with_reducible refine wpList_at ⟨none, .store _ (.tmp 15) _, _, _, _, _⟩ ?_); refine wpList_store_all rfl _ _ _ rfl (w14.heap.size) rfl _ _ rf_16 (o2.cs) rfl (o2.cs_one) rfl (by kernel_rfl) ?_; intro w17 rf_17 g17; have ri_17 := ri_16.kept g17 (by simp; omega); have ra_17 := ra_16.kept g17 (by simp; omega); have rb_17 := rb_16.kept g17 (by simp; omega); have rc_17 := rc_16.kept g17 (by simp; omega); have rd_17 := rd_16.kept g17 (by simp; omega); have re_17 := re_16.kept g17 (by simp; omega); have B17 := below_kept B16 g17 B16.size (by rintro q hq; cases hq; omega); have sz17 := g17.size; clear ri_16 ra_16 rb_16 rc_16 rd_16 re_16))
    refine ((HR4 _ B17).out).mono ?_
    rintro e w18 ⟨rfl, h18⟩
    have B18 := B17.trans (h18.mono B17.size)
    have ri_18 := ri_17.on h18
    have ra_18 := ra_17.on h18
    have rb_18 := rb_17.on h18
    have rc_18 := rc_17.on h18
    have rd_18 := rd_17.on h18
    have re_18 := re_17.on h18
    have rf_18 := rf_17.on h18
    clear ri_17 ra_17 rb_17 rc_17 rd_17 re_17 rf_17
    have sz18 := h18.size
    go_wp2_with (first
      | (with_reducible refine wpList_alloc_row (o := ⟨some 17, _, _, _, _, _⟩) rfl _ rfl zeroA zero_ac ?_; intro w19 rg_19 s19 g19; have k19 : Below w18.heap.size w18 w19 := grown_below g19 (Nat.le_refl _) (by simp); have B19 := B18.trans (k19.mono B18.size); have ri_19 := ri_18.on k19; have ra_19 := ra_18.on k19; have rb_19 := rb_18.on k19; have rc_19 := rc_18.on k19; have rd_19 := rd_18.on k19; have re_19 := re_18.on k19; have rf_19 := rf_18.on k19; clear ri_18 ra_18 rb_18 rc_18 rd_18 re_18 rf_18)
      | (with_reducible refine wpList_alloc_row (o := ⟨some 18, _, _, _, _, _⟩) rfl _ rfl zeroLO zero_lo ?_; intro w20 rh_20 s20 g20; have k20 : Below w19.heap.size w19 w20 := grown_below g20 (Nat.le_refl _) (by simp); have B20 := B19.trans (k20.mono B19.size); have ri_20 := ri_19.on k20; have ra_20 := ra_19.on k20; have rb_20 := rb_19.on k20; have rc_20 := rc_19.on k20; have rd_20 := rd_19.on k20; have re_20 := re_19.on k20; have rf_20 := rf_19.on k20; have rg_20 := rg_19.on k20; clear ri_19 ra_19 rb_19 rc_19 rd_19 re_19 rf_19 rg_19)
      | ((with_reducible refine wpList_at ⟨none, .store _ (.tmp 17) _, _, _, _, _⟩ ?_); refine wpList_store_all rfl _ _ _ rfl (w18.heap.size) rfl _ _ rg_20 (a2.cs) rfl (a2.cs_one) rfl (by kernel_rfl) ?_; intro w21 rg_21 g21; have ri_21 := ri_20.kept g21 (by simp; omega); have ra_21 := ra_20.kept g21 (by simp; omega); have rb_21 := rb_20.kept g21 (by simp; omega); have rc_21 := rc_20.kept g21 (by simp; omega); have rd_21 := rd_20.kept g21 (by simp; omega); have re_21 := re_20.kept g21 (by simp; omega); have rf_21 := rf_20.kept g21 (by simp; omega); have rh_21 := rh_20.kept g21 (by simp; omega); have B21 := below_kept B20 g21 B20.size (by rintro q hq; cases hq; omega); have sz21 := g21.size; clear ri_20 ra_20 rb_20 rc_20 rd_20 re_20 rf_20 rh_20)
      | ((with_reducible refine wpList_at ⟨none, .store _ (.tmp 18) _, _, _, _, _⟩ ?_); refine wpList_store_all rfl _ _ _ rfl (w19.heap.size) rfl _ _ rh_21 (o2.cs) rfl (o2.cs_one) rfl (by kernel_rfl) ?_; intro w22 rh_22 g22; have ri_22 := ri_21.kept g22 (by simp; omega); have ra_22 := ra_21.kept g22 (by simp; omega); have rb_22 := rb_21.kept g22 (by simp; omega); have rc_22 := rc_21.kept g22 (by simp; omega); have rd_22 := rd_21.kept g22 (by simp; omega); have re_22 := re_21.kept g22 (by simp; omega); have rf_22 := rf_21.kept g22 (by simp; omega); have rg_22 := rg_21.kept g22 (by simp; omega); have B22 := below_kept B21 g22 B21.size (by rintro q hq; cases hq; omega); have sz22 := g22.size; clear ri_21 ra_21 rb_21 rc_21 rd_21 re_21 rf_21 rg_21)
      | ((with_reducible refine wpList_at ⟨some 69, _, _, _, _, _⟩ ?_); refine wpList_valueG rfl _ (by exact exec_loadA _ _ rfl (w3.heap.size) rfl a1 ra_22) ?_)
      | ((with_reducible refine wpList_at ⟨some 70, _, _, _, _, _⟩ ?_); refine wpList_valueG rfl _ (by exact exec_loadA _ _ rfl (w8.heap.size) rfl a1 rc_22) ?_)
      | ((with_reducible refine wpList_at ⟨some 84, _, _, _, _, _⟩ ?_); refine wpList_valueG rfl _ (by exact exec_loadA _ _ rfl (w13.heap.size) rfl a2 re_22) ?_)
      | ((with_reducible refine wpList_at ⟨some 85, _, _, _, _, _⟩ ?_); refine wpList_valueG rfl _ (by exact exec_loadA _ _ rfl (w18.heap.size) rfl a2 rg_22) ?_)
      | ((with_reducible refine wpList_at ⟨some 74, _, _, _, _, _⟩ ?_); refine wpList_valueG rfl _ (by exact exec_loadLO _ _ rfl (w4.heap.size) rfl o1 rb_22) ?_)
      | ((with_reducible refine wpList_at ⟨some 75, _, _, _, _, _⟩ ?_); refine wpList_valueG rfl _ (by exact exec_loadLO _ _ rfl (w9.heap.size) rfl o1 rd_22) ?_)
      | ((with_reducible refine wpList_at ⟨some 89, _, _, _, _, _⟩ ?_); refine wpList_valueG rfl _ (by exact exec_loadLO _ _ rfl (w14.heap.size) rfl o2 rf_22) ?_)
      | ((with_reducible refine wpList_at ⟨some 90, _, _, _, _, _⟩ ?_); refine wpList_valueG rfl _ (by exact exec_loadLO _ _ rfl (w19.heap.size) rfl o2 rh_22) ?_)
      | ((with_reducible refine wpList_at ⟨some 71, _, _, _, _, _⟩ ?_); refine wpList_valueG rfl _ (by exact HEA _ _ _ _ _ a1 rfl rfl rfl) ?_)
      | ((with_reducible refine wpList_at ⟨some 86, _, _, _, _, _⟩ ?_); refine wpList_valueG rfl _ (by exact HEA _ _ _ _ _ a2 rfl rfl rfl) ?_)
      | ((with_reducible refine wpList_at ⟨some 76, _, _, _, _, _⟩ ?_); refine wpList_valueG rfl _ (by exact HEL _ _ _ _ _ o1 rfl rfl rfl) ?_)
      | ((with_reducible refine wpList_at ⟨some 91, _, _, _, _, _⟩ ?_); refine wpList_valueG rfl _ (by exact HEL _ _ _ _ _ o2 rfl rfl rfl) ?_))
    go_ret
    exact ⟨rfl, B22⟩
end Go.Proofs.Ytfcbcclcmgheeaa
