/-
  DeviceSeparate's walk. Condition: bounded lengths.
-/
import Derived.Test.YtkepmhkakkkliaaSan9
import Derived.Test.YtkepmhkakkkliaaDvT
import Derived.Test.YtkepmhkakkkliaaW92
namespace Go.Proofs.Ytkepmhkakkkliaa
open Go.RowKit

theorem row_ne {w : World} {g g' : Nat} {e e' : TypeId} {cs cs' : List Value} (h : Row w g e cs) (h' : Row w g' e' cs') (he : e ≠ e') : g ≠ g' := by
  rintro rfl
  unfold Row at h h'
  rw [h] at h'
  cases h'
  exact he rfl
theorem write_back {fs : List ByteArray} {j : Nat} {s old : ByteArray} (hs : fs[j]? = some old) (hz : s.size = 256) (c : Int) : (flWrite fs (j : Int) s c).set j old = fs := by
  rw [flWrite_nat hs hz]
  rw [List.set_set]
  refine List.ext_getElem? fun i => ?_
  rw [List.getElem?_set]
  split
  · rename_i e
    subst e
    rw [hs, if_pos (List.getElem?_eq_some_iff.1 hs).1]
  · rfl
set_option maxRecDepth 100000 in
set_option maxHeartbeats 40000000 in
theorem walk93 (h : Hw) (k x c0 : Int) (s : ByteArray) (f : DvF) (w : World) (hok : HwOK w h) :
    Calls Try.prog 5 #[h.v, (⟨k, x, c0, s⟩ : DvA).v, f.v] w (TellsB true w) := by
  have HSA := fun W => sanity9_any W
  have HSMA := fun W h1 => Lib.hid (small_any9 h W h1)
  have H16 := Lib.hid hok.h16
  go_enter Try.func5, Try.ntmps5
  go_wp2_with (first
    | ((with_reducible refine wpList_at ⟨some 3, _, _, _, _, _⟩ ?_); refine wpList_box_row rfl _ _ rfl (h.cs) rfl ?_; intro w1 rh_1 s1 g1; have k1 : Below w.heap.size w w1 := grown_below g1 (Nat.le_refl _) (by simp); have B1 : Below w.heap.size w w1 := k1; have kh_1 := hok.on k1; have crh0 := rh_1.cell (j := 0) rfl; have crh1 := rh_1.cell (j := 1) rfl)
    | ((with_reducible refine wpList_at ⟨some 4, _, _, _, _, _⟩ ?_); refine wpList_box_row rfl _ _ rfl ((⟨k, x, c0, s⟩ : DvA).cs) rfl ?_; intro w2 ra_2 s2 g2; have k2 : Below w1.heap.size w1 w2 := grown_below g2 (Nat.le_refl _) (by simp); have B2 := B1.trans (k2.mono B1.size); have kh_2 := kh_1.on k2; have rh_2 := rh_1.on k2; clear kh_1 rh_1; have crh0 := rh_2.cell (j := 0) rfl; have crh1 := rh_2.cell (j := 1) rfl; have cra0 := ra_2.cell (j := 0) rfl; have cra1 := ra_2.cell (j := 1) rfl; have cra2 := ra_2.cell (j := 2) rfl; have cra3 := ra_2.cell (j := 3) rfl)
    | ((with_reducible refine wpList_at ⟨some 5, _, _, _, _, _⟩ ?_); refine wpList_box_row rfl _ _ rfl (f.cs) rfl ?_; intro w3 rf_3 s3 g3; have k3 : Below w2.heap.size w2 w3 := grown_below g3 (Nat.le_refl _) (by simp); have B3 := B2.trans (k3.mono B2.size); have kh_3 := kh_2.on k3; have rh_3 := rh_2.on k3; have ra_3 := ra_2.on k3; clear kh_2 rh_2 ra_2; have crh0 := rh_3.cell (j := 0) rfl; have crh1 := rh_3.cell (j := 1) rfl; have cra0 := ra_3.cell (j := 0) rfl; have cra1 := ra_3.cell (j := 1) rfl; have cra2 := ra_3.cell (j := 2) rfl; have cra3 := ra_3.cell (j := 3) rfl))
  refine (HSA _).mono ?_
  rintro e w4 ⟨rfl, h4⟩
  have B4 := B3.trans (h4.mono B3.size)
  have kh_4 := kh_3.on h4
  have rh_4 := rh_3.on h4
  have ra_4 := ra_3.on h4
  have rf_4 := rf_3.on h4
  clear kh_3 rh_3 ra_3 rf_3
  have crh0 := rh_4.cell (j := 0) rfl
  have crh1 := rh_4.cell (j := 1) rfl
  have cra0 := ra_4.cell (j := 0) rfl
  have cra1 := ra_4.cell (j := 1) rfl
  have cra2 := ra_4.cell (j := 2) rfl
  have cra3 := ra_4.cell (j := 3) rfl
  go_wp2_with ((with_reducible refine wpList_at ⟨some 13, _, _, _, _, _⟩ ?_); refine wpList_valueG rfl _ (by exact exec_loadH _ _ rfl (w.heap.size) rfl h H16.out rh_4) ?_)
  refine ((HSMA _ kh_4).out).mono ?_
  rintro e w5 ⟨v, rfl, hv, h5⟩
  have B5 := B4.trans (h5.mono B4.size)
  have kh_5 := kh_4.on h5
  have rh_5 := rh_4.on h5
  have ra_5 := ra_4.on h5
  have rf_5 := rf_4.on h5
  clear kh_4 rh_4 ra_4 rf_4
  have crh0 := rh_5.cell (j := 0) rfl
  have crh1 := rh_5.cell (j := 1) rfl
  have cra0 := ra_5.cell (j := 0) rfl
  have cra1 := ra_5.cell (j := 1) rfl
  have cra2 := ra_5.cell (j := 2) rfl
  have cra3 := ra_5.cell (j := 3) rfl
  have HV := Lib.hid hv
  clear hv
  rcases v_cases9 HV.out with rfl | ⟨rfl, hsm, hfv⟩
  · go_wp2_with fail
    go_ret
    exact ⟨rfl, B5⟩
  have HSM := Lib.hid hsm
  clear hsm hfv
  by_cases hs300 : 300 < s.size
  · go_wp2_with fail
    go_ret
    exact ⟨rfl, B5⟩
  by_cases he : dvErr h.s ⟨k, x, c0, s⟩ = 0
  rotate_left
  · have HDO := fun W h1 => Lib.hid (do_any9 h ⟨k, x, c0, s⟩ f W h1 HSM.out)
    rw [dvSt_err he] at HDO
    have hq : (dvErr h.s ⟨k, x, c0, s⟩ != 0) = true := by simpa using he
    generalize dvErr h.s ⟨k, x, c0, s⟩ = E at *
    generalize dvRs h.s ⟨k, x, c0, s⟩ f = RR at *
    clear he
    go_wp2_with (first
      | ((with_reducible refine wpList_at ⟨some 24, _, _, _, _, _⟩ ?_); refine wpList_valueG rfl _ (by exact exec_loadH _ _ rfl (w.heap.size) rfl h H16.out rh_5) ?_)
      | ((with_reducible refine wpList_at ⟨some 25, _, _, _, _, _⟩ ?_); refine wpList_valueG rfl _ (by exact exec_loadA _ _ rfl (w1.heap.size) rfl (⟨k, x, c0, s⟩ : DvA) ra_5) ?_)
      | ((with_reducible refine wpList_at ⟨some 26, _, _, _, _, _⟩ ?_); refine wpList_valueG rfl _ (by exact exec_loadT _ _ rfl (w2.heap.size) rfl f rf_5) ?_))
    refine ((HDO _ kh_5).out).mono ?_
    rintro e w6 ⟨hx, rfl, kx, _, sx, h6⟩
    have B6 := B5.trans (h6.mono B5.size)
    have kh_6 := kh_5.on h6
    have rh_6 := rh_5.on h6
    have ra_6 := ra_5.on h6
    have rf_6 := rf_5.on h6
    clear kh_5 rh_5 ra_5 rf_5
    have crh0 := rh_6.cell (j := 0) rfl
    have crh1 := rh_6.cell (j := 1) rfl
    have cra0 := ra_6.cell (j := 0) rfl
    have cra1 := ra_6.cell (j := 1) rfl
    have cra2 := ra_6.cell (j := 2) rfl
    have cra3 := ra_6.cell (j := 3) rfl
    have HSx := Lib.hid sx
    have H16x := Lib.hid kx.h16
    clear sx
    have wb6 := B6.size
    have HXS : Hid (dvSm hx.s) := Lib.hid (by rw [HSx.out]; first | exact HSM.out | exact HSS.out)
    have QS := fun W h1 h2 => Lib.hid (dsame_any9 hx h W h1 h2 HXS.out)
    rw [HSx.out, dvSame_refl] at QS
    go_wp2_with (first
      | (with_reducible refine wpList_alloc_row (o := ⟨some 8, _, _, _, _, _⟩) rfl _ rfl zeroH zero_hw ?_; intro w7 r7 s7 g7)
      | (with_reducible refine wpList_alloc_row (o := ⟨some 9, _, _, _, _, _⟩) rfl _ rfl zeroR zero_rs ?_; intro w8 r8 s8 g8; have q8 := r7.kept g8 (by simp); have k8 := below_kept (grown_below g7 (Nat.le_refl _) (by simp)) g8 (Nat.le_of_lt s7) (by simp))
      | ((with_reducible refine wpList_at ⟨none, .store _ (.tmp 8) _, _, _, _, _⟩ ?_); refine wpList_store_all rfl _ _ _ rfl w6.heap.size rfl _ _ q8 (hx.cs) rfl (hx.cs_one) (hw_zl H16x.out) (hw_size H16x.out) ?_; intro w9 t9 g9; have q9 := r8.kept g9 (by simp; omega); have k9 := below_kept k8 g9 k8.size (by rintro q hq; cases hq; exact Nat.le_refl _))
      | ((with_reducible refine wpList_at ⟨none, .store _ (.tmp 9) _, _, _, _, _⟩ ?_); refine wpList_store_all rfl _ _ _ rfl w7.heap.size rfl _ _ q9 (RR.cs) rfl (RR.cs_one) rfl (by kernel_rfl) ?_; intro w10 rr_10 g10; have k10 : Below w6.heap.size w6 w10 := below_kept k9 g10 k9.size (by rintro q hq; cases hq; exact Nat.le_of_lt s7); have rx_10 := t9.kept g10 (by simp; omega); have B10 := B6.trans (k10.mono B6.size); have kh_10 := kh_6.on k10; have rh_10 := rh_6.on k10; have ra_10 := ra_6.on k10; have rf_10 := rf_6.on k10; have kx_10 := kx.on k10; clear kh_6 rh_6 ra_6 rf_6; have crh0 := rh_10.cell (j := 0) rfl; have crh1 := rh_10.cell (j := 1) rfl; have cra0 := ra_10.cell (j := 0) rfl; have cra1 := ra_10.cell (j := 1) rfl; have cra2 := ra_10.cell (j := 2) rfl; have cra3 := ra_10.cell (j := 3) rfl; have s10 := rx_10.lt; have v10 := rr_10.lt; clear r7 r8 q8 q9 t9 g7 g8 g9 g10 k8 k9)
      | ((with_reducible refine wpList_at ⟨some 45, _, _, _, _, _⟩ ?_); refine wpList_valueG rfl _ (by exact exec_loadH _ _ rfl (w6.heap.size) rfl hx H16x.out rx_10) ?_)
      | ((with_reducible refine wpList_at ⟨some 46, _, _, _, _, _⟩ ?_); refine wpList_valueG rfl _ (by exact exec_loadH _ _ rfl (w.heap.size) rfl h H16.out rh_10) ?_))
    refine ((QS _ kx_10 kh_10).out).mono ?_
    rintro e w11 ⟨rfl, h11⟩
    have B11 := B10.trans (h11.mono B10.size)
    have kh_11 := kh_10.on h11
    have rh_11 := rh_10.on h11
    have ra_11 := ra_10.on h11
    have rf_11 := rf_10.on h11
    have kx_11 := kx_10.on h11
    have rx_11 := rx_10.on h11
    have rr_11 := rr_10.on h11
    clear kh_10 rh_10 ra_10 rf_10 kx_10 rx_10 rr_10
    have crh0 := rh_11.cell (j := 0) rfl
    have crh1 := rh_11.cell (j := 1) rfl
    have cra0 := ra_11.cell (j := 0) rfl
    have cra1 := ra_11.cell (j := 1) rfl
    have cra2 := ra_11.cell (j := 2) rfl
    have cra3 := ra_11.cell (j := 3) rfl
    go_wp2_with fail
    go_ret
    exact ⟨rfl, B11⟩
  have hb : dvBad ⟨k, x, c0, s⟩ = false := by cases hb : dvBad ⟨k, x, c0, s⟩ with | false => rfl | true => rw [dvErr_bad hb] at he; cases he
  rcases dvBad_no hb with hk | hk | hk | hk
  · obtain rfl : k = 1 := hk
    have HDO := fun W h1 => Lib.hid (do_any9 h ⟨1, x, c0, s⟩ f W h1 HSM.out)
    rw [he] at HDO
    generalize dvRs h.s ⟨1, x, c0, s⟩ f = RR at *
    rw [dvSt_keep (.inl rfl)] at HDO
    clear he hb
    go_wp2_with (first
      | ((with_reducible refine wpList_at ⟨some 24, _, _, _, _, _⟩ ?_); refine wpList_valueG rfl _ (by exact exec_loadH _ _ rfl (w.heap.size) rfl h H16.out rh_5) ?_)
      | ((with_reducible refine wpList_at ⟨some 25, _, _, _, _, _⟩ ?_); refine wpList_valueG rfl _ (by exact exec_loadA _ _ rfl (w1.heap.size) rfl (⟨1, x, c0, s⟩ : DvA) ra_5) ?_)
      | ((with_reducible refine wpList_at ⟨some 26, _, _, _, _, _⟩ ?_); refine wpList_valueG rfl _ (by exact exec_loadT _ _ rfl (w2.heap.size) rfl f rf_5) ?_))
    refine ((HDO _ kh_5).out).mono ?_
    rintro e w6 ⟨hx, rfl, kx, _, sx, h6⟩
    have B6 := B5.trans (h6.mono B5.size)
    have kh_6 := kh_5.on h6
    have rh_6 := rh_5.on h6
    have ra_6 := ra_5.on h6
    have rf_6 := rf_5.on h6
    clear kh_5 rh_5 ra_5 rf_5
    have crh0 := rh_6.cell (j := 0) rfl
    have crh1 := rh_6.cell (j := 1) rfl
    have cra0 := ra_6.cell (j := 0) rfl
    have cra1 := ra_6.cell (j := 1) rfl
    have cra2 := ra_6.cell (j := 2) rfl
    have cra3 := ra_6.cell (j := 3) rfl
    have HSx := Lib.hid sx
    have H16x := Lib.hid kx.h16
    clear sx
    have wb6 := B6.size
    have HXS : Hid (dvSm hx.s) := Lib.hid (by rw [HSx.out]; first | exact HSM.out | exact HSS.out)
    have QS := fun W h1 h2 => Lib.hid (dsame_any9 hx h W h1 h2 HXS.out)
    rw [HSx.out, dvSame_refl] at QS
    go_wp2_with (first
      | (with_reducible refine wpList_alloc_row (o := ⟨some 8, _, _, _, _, _⟩) rfl _ rfl zeroH zero_hw ?_; intro w7 r7 s7 g7)
      | (with_reducible refine wpList_alloc_row (o := ⟨some 9, _, _, _, _, _⟩) rfl _ rfl zeroR zero_rs ?_; intro w8 r8 s8 g8; have q8 := r7.kept g8 (by simp); have k8 := below_kept (grown_below g7 (Nat.le_refl _) (by simp)) g8 (Nat.le_of_lt s7) (by simp))
      | ((with_reducible refine wpList_at ⟨none, .store _ (.tmp 8) _, _, _, _, _⟩ ?_); refine wpList_store_all rfl _ _ _ rfl w6.heap.size rfl _ _ q8 (hx.cs) rfl (hx.cs_one) (hw_zl H16x.out) (hw_size H16x.out) ?_; intro w9 t9 g9; have q9 := r8.kept g9 (by simp; omega); have k9 := below_kept k8 g9 k8.size (by rintro q hq; cases hq; exact Nat.le_refl _))
      | ((with_reducible refine wpList_at ⟨none, .store _ (.tmp 9) _, _, _, _, _⟩ ?_); refine wpList_store_all rfl _ _ _ rfl w7.heap.size rfl _ _ q9 (RR.cs) rfl (RR.cs_one) rfl (by kernel_rfl) ?_; intro w10 rr_10 g10; have k10 : Below w6.heap.size w6 w10 := below_kept k9 g10 k9.size (by rintro q hq; cases hq; exact Nat.le_of_lt s7); have rx_10 := t9.kept g10 (by simp; omega); have B10 := B6.trans (k10.mono B6.size); have kh_10 := kh_6.on k10; have rh_10 := rh_6.on k10; have ra_10 := ra_6.on k10; have rf_10 := rf_6.on k10; have kx_10 := kx.on k10; clear kh_6 rh_6 ra_6 rf_6; have crh0 := rh_10.cell (j := 0) rfl; have crh1 := rh_10.cell (j := 1) rfl; have cra0 := ra_10.cell (j := 0) rfl; have cra1 := ra_10.cell (j := 1) rfl; have cra2 := ra_10.cell (j := 2) rfl; have cra3 := ra_10.cell (j := 3) rfl; have s10 := rx_10.lt; have v10 := rr_10.lt; clear r7 r8 q8 q9 t9 g7 g8 g9 g10 k8 k9)
      | ((with_reducible refine wpList_at ⟨some 45, _, _, _, _, _⟩ ?_); refine wpList_valueG rfl _ (by exact exec_loadH _ _ rfl (w6.heap.size) rfl hx H16x.out rx_10) ?_)
      | ((with_reducible refine wpList_at ⟨some 46, _, _, _, _, _⟩ ?_); refine wpList_valueG rfl _ (by exact exec_loadH _ _ rfl (w.heap.size) rfl h H16.out rh_10) ?_))
    refine ((QS _ kx_10 kh_10).out).mono ?_
    rintro e w11 ⟨rfl, h11⟩
    have B11 := B10.trans (h11.mono B10.size)
    have kh_11 := kh_10.on h11
    have rh_11 := rh_10.on h11
    have ra_11 := ra_10.on h11
    have rf_11 := rf_10.on h11
    have kx_11 := kx_10.on h11
    have rx_11 := rx_10.on h11
    have rr_11 := rr_10.on h11
    clear kh_10 rh_10 ra_10 rf_10 kx_10 rx_10 rr_10
    have crh0 := rh_11.cell (j := 0) rfl
    have crh1 := rh_11.cell (j := 1) rfl
    have cra0 := ra_11.cell (j := 0) rfl
    have cra1 := ra_11.cell (j := 1) rfl
    have cra2 := ra_11.cell (j := 2) rfl
    have cra3 := ra_11.cell (j := 3) rfl
    go_wp2_with fail
    go_ret
    exact ⟨rfl, B11⟩
  · obtain rfl : k = 2 := hk
    have HDO := fun W h1 => Lib.hid (do_any9 h ⟨2, x, c0, s⟩ f W h1 HSM.out)
    rw [he] at HDO
    generalize dvRs h.s ⟨2, x, c0, s⟩ f = RR at *
    have HSS := Lib.hid (dvSt_sm (s := h.s) (a := ⟨2, x, c0, s⟩) (f := f) HSM.out)
    rw [dvSt_pulse hb rfl] at HDO HSS
    clear he hb
    go_wp2_with (first
      | ((with_reducible refine wpList_at ⟨some 24, _, _, _, _, _⟩ ?_); refine wpList_valueG rfl _ (by exact exec_loadH _ _ rfl (w.heap.size) rfl h H16.out rh_5) ?_)
      | ((with_reducible refine wpList_at ⟨some 25, _, _, _, _, _⟩ ?_); refine wpList_valueG rfl _ (by exact exec_loadA _ _ rfl (w1.heap.size) rfl (⟨2, x, c0, s⟩ : DvA) ra_5) ?_)
      | ((with_reducible refine wpList_at ⟨some 26, _, _, _, _, _⟩ ?_); refine wpList_valueG rfl _ (by exact exec_loadT _ _ rfl (w2.heap.size) rfl f rf_5) ?_))
    refine ((HDO _ kh_5).out).mono ?_
    rintro e w6 ⟨hx, rfl, kx, _, sx, h6⟩
    have B6 := B5.trans (h6.mono B5.size)
    have kh_6 := kh_5.on h6
    have rh_6 := rh_5.on h6
    have ra_6 := ra_5.on h6
    have rf_6 := rf_5.on h6
    clear kh_5 rh_5 ra_5 rf_5
    have crh0 := rh_6.cell (j := 0) rfl
    have crh1 := rh_6.cell (j := 1) rfl
    have cra0 := ra_6.cell (j := 0) rfl
    have cra1 := ra_6.cell (j := 1) rfl
    have cra2 := ra_6.cell (j := 2) rfl
    have cra3 := ra_6.cell (j := 3) rfl
    have HSx := Lib.hid sx
    have H16x := Lib.hid kx.h16
    clear sx
    have wb6 := B6.size
    have HXS : Hid (dvSm hx.s) := Lib.hid (by rw [HSx.out]; first | exact HSM.out | exact HSS.out)
    have HRT : Hid (hx.rt = h.rt) := Lib.hid (congrArg DvS.rt HSx.out)
    have HFS : Hid (hx.fs = h.fs) := Lib.hid (congrArg DvS.fs HSx.out)
    go_wp2_with (first
      | (with_reducible refine wpList_alloc_row (o := ⟨some 8, _, _, _, _, _⟩) rfl _ rfl zeroH zero_hw ?_; intro w7 r7 s7 g7)
      | (with_reducible refine wpList_alloc_row (o := ⟨some 9, _, _, _, _, _⟩) rfl _ rfl zeroR zero_rs ?_; intro w8 r8 s8 g8; have q8 := r7.kept g8 (by simp); have k8 := below_kept (grown_below g7 (Nat.le_refl _) (by simp)) g8 (Nat.le_of_lt s7) (by simp))
      | ((with_reducible refine wpList_at ⟨none, .store _ (.tmp 8) _, _, _, _, _⟩ ?_); refine wpList_store_all rfl _ _ _ rfl w6.heap.size rfl _ _ q8 (hx.cs) rfl (hx.cs_one) (hw_zl H16x.out) (hw_size H16x.out) ?_; intro w9 t9 g9; have q9 := r8.kept g9 (by simp; omega); have k9 := below_kept k8 g9 k8.size (by rintro q hq; cases hq; exact Nat.le_refl _))
      | ((with_reducible refine wpList_at ⟨none, .store _ (.tmp 9) _, _, _, _, _⟩ ?_); refine wpList_store_all rfl _ _ _ rfl w7.heap.size rfl _ _ q9 (RR.cs) rfl (RR.cs_one) rfl (by kernel_rfl) ?_; intro w10 rr_10 g10; have k10 : Below w6.heap.size w6 w10 := below_kept k9 g10 k9.size (by rintro q hq; cases hq; exact Nat.le_of_lt s7); have rx_10 := t9.kept g10 (by simp; omega); have B10 := B6.trans (k10.mono B6.size); have kh_10 := kh_6.on k10; have rh_10 := rh_6.on k10; have ra_10 := ra_6.on k10; have rf_10 := rf_6.on k10; have kx_10 := kx.on k10; have IXW := kx_10.in_; have IHW := kh_10.in_; clear kh_6 rh_6 ra_6 rf_6; have crh0 := rh_10.cell (j := 0) rfl; have crh1 := rh_10.cell (j := 1) rfl; have cra0 := ra_10.cell (j := 0) rfl; have cra1 := ra_10.cell (j := 1) rfl; have cra2 := ra_10.cell (j := 2) rfl; have cra3 := ra_10.cell (j := 3) rfl; have s10 := rx_10.lt; have v10 := rr_10.lt; clear r7 r8 q8 q9 t9 g7 g8 g9 g10 k8 k9)
      | ((with_reducible refine wpList_at ⟨some 49, _, _, _, _, _⟩ ?_); refine wpList_valueG rfl _ (by exact exec_loadH _ _ rfl (w6.heap.size) rfl hx H16x.out rx_10) ?_)
      | (with_reducible refine wpList_alloc_row (o := ⟨some 11, _, _, _, _, _⟩) rfl _ rfl zeroH zero_hw ?_; intro w11 r11 s11 g11)
      | ((with_reducible refine wpList_at ⟨none, .store _ (.tmp 11) _, _, _, _, _⟩ ?_); refine wpList_store_all rfl _ _ _ rfl w10.heap.size rfl _ _ r11 (hx.cs) rfl (hx.cs_one) (hw_zl H16x.out) (hw_size H16x.out) ?_; intro w12 ry_12 g12; have k12 : Below w10.heap.size w10 w12 := below_kept (grown_below g11 (Nat.le_refl _) (by simp)) g12 (Nat.le_of_lt s11) (by rintro q hq; cases hq; exact Nat.le_refl _); have B12 := B10.trans (k12.mono B10.size); have kh_12 := kh_10.on k12; have rh_12 := rh_10.on k12; have ra_12 := ra_10.on k12; have rf_12 := rf_10.on k12; have kx_12 := kx_10.on k12; have rx_12 := rx_10.on k12; have rr_12 := rr_10.on k12; clear kh_10 rh_10 ra_10 rf_10 kx_10 rx_10 rr_10; have crh0 := rh_12.cell (j := 0) rfl; have crh1 := rh_12.cell (j := 1) rfl; have cra0 := ra_12.cell (j := 0) rfl; have cra1 := ra_12.cell (j := 1) rfl; have cra2 := ra_12.cell (j := 2) rfl; have cra3 := ra_12.cell (j := 3) rfl; clear r11 g11 g12; have s12 := ry_12.lt)
      | ((with_reducible refine wpList_at ⟨some 54, _, _, _, _, _⟩ ?_); refine wpList_valueG rfl _ (by exact exec_loadHF _ _ rfl (w.heap.size) rfl h rh_12) ?_)
      | ((with_reducible refine wpList_at ⟨none, .store _ (.tmp 55) _, _, _, _, _⟩ ?_); refine wpList_store_part rfl _ _ _ rfl (w10.heap.size) 0 rfl _ _ ry_12 [.slice h.A h.n h.c] rfl (slice_one _ _ _) (by show 0 + 1 ≤ _ + 2; omega) (by kernel_rfl) ?_; intro wS ryS gS; have rhS := rh_12.kept gS (by simp; omega); have rxS := rx_12.kept gS (by simp; omega); have crh0 := rhS.cell (j := 0) rfl)
      | ((with_reducible refine wpList_at ⟨some 101, _, _, _, _, _⟩ ?_); refine wpList_valueG rfl _ (by exact exec_loadH _ _ rfl (w10.heap.size) rfl (⟨h.A, h.n, h.c, h.ps, hx.B, hx.m, hx.d, hx.fs, hx.rt⟩ : Hw) H16x.out ryS) ?_)
      | ((with_reducible refine wpList_at ⟨some 102, _, _, _, _, _⟩ ?_); refine wpList_valueG rfl _ (by exact exec_loadH _ _ rfl (w.heap.size) rfl h H16.out rhS) ?_))
    have nG : ¬ (w10.heap.size < w10.heap.size) := Nat.lt_irrefl _
    have okhS := kh_12.apart IHW gS nG
    have okxS := kx_12.apart IXW gS nG
    have okyS : HwOK wS (⟨h.A, h.n, h.c, h.ps, hx.B, hx.m, hx.d, hx.fs, hx.rt⟩ : Hw) := ⟨okhS.1, okxS.2.1, H16x.out⟩
    have HYS : Hid (Hw.s (⟨h.A, h.n, h.c, h.ps, hx.B, hx.m, hx.d, hx.fs, hx.rt⟩ : Hw) = h.s) := Lib.hid (by show DvS.mk _ _ _ = DvS.mk _ _ _; rw [HFS.out, HRT.out])
    have QS := fun W h1 h2 => Lib.hid (dsame_any9 (⟨h.A, h.n, h.c, h.ps, hx.B, hx.m, hx.d, hx.fs, hx.rt⟩ : Hw) h W h1 h2 (HYS.out.symm ▸ HSM.out))
    rw [HYS.out, dvSame_refl] at QS
    have BS := below_kept B12 gS B12.size (by rintro q hq; cases hq; omega)
    refine ((QS _ okyS okhS).out).mono ?_
    rintro e w13 ⟨rfl, h13⟩
    have B13 := BS.trans (h13.mono BS.size)
    have rh_13 := rhS.on h13
    have rx_13 := rxS.on h13
    have kh_13 := okhS.on h13
    have kx_13 := okxS.on h13
    go_wp2_with (first
      | ((with_reducible refine wpList_at ⟨some 107, _, _, _, _, _⟩ ?_); refine wpList_valueG rfl _ (by exact exec_loadHR _ _ rfl (w6.heap.size) rfl hx H16x.out rx_13) ?_)
      | ((with_reducible refine wpList_at ⟨some 109, _, _, _, _, _⟩ ?_); refine wpList_valueG rfl _ (by exact exec_loadHR _ _ rfl (w.heap.size) rfl h H16.out rh_13) ?_)
      | ((with_reducible refine wpList_at ⟨some 110, _, _, _, _, _⟩ ?_); refine wpList_valueG rfl _ (by exact exec_eql16b _ _ _ rfl hx.rt h.rt H16x.out H16.out true (decide_eq_true HRT.out) rfl rfl) ?_))
    go_ret
    exact ⟨rfl, B13⟩
  · obtain rfl : k = 3 := hk
    have HDO := fun W h1 => Lib.hid (do_any9 h ⟨3, x, c0, s⟩ f W h1 HSM.out)
    rw [he] at HDO
    generalize dvRs h.s ⟨3, x, c0, s⟩ f = RR at *
    rw [dvSt_keep (.inr rfl)] at HDO
    clear he hb
    go_wp2_with (first
      | ((with_reducible refine wpList_at ⟨some 24, _, _, _, _, _⟩ ?_); refine wpList_valueG rfl _ (by exact exec_loadH _ _ rfl (w.heap.size) rfl h H16.out rh_5) ?_)
      | ((with_reducible refine wpList_at ⟨some 25, _, _, _, _, _⟩ ?_); refine wpList_valueG rfl _ (by exact exec_loadA _ _ rfl (w1.heap.size) rfl (⟨3, x, c0, s⟩ : DvA) ra_5) ?_)
      | ((with_reducible refine wpList_at ⟨some 26, _, _, _, _, _⟩ ?_); refine wpList_valueG rfl _ (by exact exec_loadT _ _ rfl (w2.heap.size) rfl f rf_5) ?_))
    refine ((HDO _ kh_5).out).mono ?_
    rintro e w6 ⟨hx, rfl, kx, _, sx, h6⟩
    have B6 := B5.trans (h6.mono B5.size)
    have kh_6 := kh_5.on h6
    have rh_6 := rh_5.on h6
    have ra_6 := ra_5.on h6
    have rf_6 := rf_5.on h6
    clear kh_5 rh_5 ra_5 rf_5
    have crh0 := rh_6.cell (j := 0) rfl
    have crh1 := rh_6.cell (j := 1) rfl
    have cra0 := ra_6.cell (j := 0) rfl
    have cra1 := ra_6.cell (j := 1) rfl
    have cra2 := ra_6.cell (j := 2) rfl
    have cra3 := ra_6.cell (j := 3) rfl
    have HSx := Lib.hid sx
    have H16x := Lib.hid kx.h16
    clear sx
    have wb6 := B6.size
    have HXS : Hid (dvSm hx.s) := Lib.hid (by rw [HSx.out]; first | exact HSM.out | exact HSS.out)
    have QS := fun W h1 h2 => Lib.hid (dsame_any9 hx h W h1 h2 HXS.out)
    rw [HSx.out, dvSame_refl] at QS
    go_wp2_with (first
      | (with_reducible refine wpList_alloc_row (o := ⟨some 8, _, _, _, _, _⟩) rfl _ rfl zeroH zero_hw ?_; intro w7 r7 s7 g7)
      | (with_reducible refine wpList_alloc_row (o := ⟨some 9, _, _, _, _, _⟩) rfl _ rfl zeroR zero_rs ?_; intro w8 r8 s8 g8; have q8 := r7.kept g8 (by simp); have k8 := below_kept (grown_below g7 (Nat.le_refl _) (by simp)) g8 (Nat.le_of_lt s7) (by simp))
      | ((with_reducible refine wpList_at ⟨none, .store _ (.tmp 8) _, _, _, _, _⟩ ?_); refine wpList_store_all rfl _ _ _ rfl w6.heap.size rfl _ _ q8 (hx.cs) rfl (hx.cs_one) (hw_zl H16x.out) (hw_size H16x.out) ?_; intro w9 t9 g9; have q9 := r8.kept g9 (by simp; omega); have k9 := below_kept k8 g9 k8.size (by rintro q hq; cases hq; exact Nat.le_refl _))
      | ((with_reducible refine wpList_at ⟨none, .store _ (.tmp 9) _, _, _, _, _⟩ ?_); refine wpList_store_all rfl _ _ _ rfl w7.heap.size rfl _ _ q9 (RR.cs) rfl (RR.cs_one) rfl (by kernel_rfl) ?_; intro w10 rr_10 g10; have k10 : Below w6.heap.size w6 w10 := below_kept k9 g10 k9.size (by rintro q hq; cases hq; exact Nat.le_of_lt s7); have rx_10 := t9.kept g10 (by simp; omega); have B10 := B6.trans (k10.mono B6.size); have kh_10 := kh_6.on k10; have rh_10 := rh_6.on k10; have ra_10 := ra_6.on k10; have rf_10 := rf_6.on k10; have kx_10 := kx.on k10; clear kh_6 rh_6 ra_6 rf_6; have crh0 := rh_10.cell (j := 0) rfl; have crh1 := rh_10.cell (j := 1) rfl; have cra0 := ra_10.cell (j := 0) rfl; have cra1 := ra_10.cell (j := 1) rfl; have cra2 := ra_10.cell (j := 2) rfl; have cra3 := ra_10.cell (j := 3) rfl; have s10 := rx_10.lt; have v10 := rr_10.lt; clear r7 r8 q8 q9 t9 g7 g8 g9 g10 k8 k9)
      | ((with_reducible refine wpList_at ⟨some 45, _, _, _, _, _⟩ ?_); refine wpList_valueG rfl _ (by exact exec_loadH _ _ rfl (w6.heap.size) rfl hx H16x.out rx_10) ?_)
      | ((with_reducible refine wpList_at ⟨some 46, _, _, _, _, _⟩ ?_); refine wpList_valueG rfl _ (by exact exec_loadH _ _ rfl (w.heap.size) rfl h H16.out rh_10) ?_))
    refine ((QS _ kx_10 kh_10).out).mono ?_
    rintro e w11 ⟨rfl, h11⟩
    have B11 := B10.trans (h11.mono B10.size)
    have kh_11 := kh_10.on h11
    have rh_11 := rh_10.on h11
    have ra_11 := ra_10.on h11
    have rf_11 := rf_10.on h11
    have kx_11 := kx_10.on h11
    have rx_11 := rx_10.on h11
    have rr_11 := rr_10.on h11
    clear kh_10 rh_10 ra_10 rf_10 kx_10 rx_10 rr_10
    have crh0 := rh_11.cell (j := 0) rfl
    have crh1 := rh_11.cell (j := 1) rfl
    have cra0 := ra_11.cell (j := 0) rfl
    have cra1 := ra_11.cell (j := 1) rfl
    have cra2 := ra_11.cell (j := 2) rfl
    have cra3 := ra_11.cell (j := 3) rfl
    go_wp2_with fail
    go_ret
    exact ⟨rfl, B11⟩
  · obtain rfl : k = 4 := hk
    have HDO := fun W h1 => Lib.hid (do_any9 h ⟨4, x, c0, s⟩ f W h1 HSM.out)
    rw [he] at HDO
    generalize dvRs h.s ⟨4, x, c0, s⟩ f = RR at *
    rw [dvSt_write hb rfl] at HDO
    rw [dvErr_write hb rfl] at he
    have he' : flWErr h.fs c0 s = 0 := he
    clear he hb
    have hin : flIn h.fs c0 = true := by cases hi : flIn h.fs c0 with | true => rfl | false => rw [flWErr_no hi] at he'; cases he'
    have hz : s.size = 256 := by by_cases hz : s.size = 256; exact hz; rw [flWErr_len hin hz] at he'; cases he'
    obtain ⟨j, rfl, hj⟩ := flIn_iff.1 hin
    rw [hok.2.1.len] at hj
    have HZ := Lib.hid hz
    clear hin he' hz
    obtain ⟨hd, old, hhB, hltb, hold, hco⟩ := hok.2.1.1.str_at hj
    have HOLD := Lib.hid hold
    clear hold
    have hm0 := hok.sm3 HSM.out
    go_wp2_with (first
      | ((with_reducible refine wpList_at ⟨some 24, _, _, _, _, _⟩ ?_); refine wpList_valueG rfl _ (by exact exec_loadH _ _ rfl (w.heap.size) rfl h H16.out rh_5) ?_)
      | ((with_reducible refine wpList_at ⟨some 25, _, _, _, _, _⟩ ?_); refine wpList_valueG rfl _ (by exact exec_loadA _ _ rfl (w1.heap.size) rfl (⟨4, x, (j : Int), s⟩ : DvA) ra_5) ?_)
      | ((with_reducible refine wpList_at ⟨some 26, _, _, _, _, _⟩ ?_); refine wpList_valueG rfl _ (by exact exec_loadT _ _ rfl (w2.heap.size) rfl f rf_5) ?_))
    refine ((HDO _ kh_5).out).mono ?_
    rintro e w6 ⟨hx, rfl, kx, _, sx, h6⟩
    have B6 := B5.trans (h6.mono B5.size)
    have kh_6 := kh_5.on h6
    have rh_6 := rh_5.on h6
    have ra_6 := ra_5.on h6
    have rf_6 := rf_5.on h6
    clear kh_5 rh_5 ra_5 rf_5
    have crh0 := rh_6.cell (j := 0) rfl
    have crh1 := rh_6.cell (j := 1) rfl
    have cra0 := ra_6.cell (j := 0) rfl
    have cra1 := ra_6.cell (j := 1) rfl
    have cra2 := ra_6.cell (j := 2) rfl
    have cra3 := ra_6.cell (j := 3) rfl
    have HSx := Lib.hid sx
    have H16x := Lib.hid kx.h16
    clear sx
    have wb6 := B6.size
    have HRT : Hid (hx.rt = h.rt) := Lib.hid (congrArg DvS.rt HSx.out)
    have HFS : Hid (hx.fs = flWrite h.fs (j : Int) s (dvCut f)) := Lib.hid (congrArg DvS.fs HSx.out)
    have HBS : Hid (bk hx.ps = bk h.ps) := Lib.hid (congrArg DvS.bs HSx.out)
    have hml : hx.m = h.m := by rw [← kx.2.1.len, ← hok.2.1.len, HFS.out, flWrite_length]
    have hjx : j < hx.m := by omega
    have hmx : hx.m ≤ 1000000 := by omega
    obtain ⟨xd, _, hxB, hltx, _, _⟩ := kx.2.1.1.str_at hjx
    have hzz : ((hx.m : Int) != (h.m : Int)) = false := by rw [hml]; simp
    have HML := Lib.hid hml
    clear hml
    obtain ⟨i0, hi0, hz0, hz1, hz2⟩ := info_parts info_st
    go_wp2_with (first
      | (with_reducible refine wpList_alloc_row (o := ⟨some 8, _, _, _, _, _⟩) rfl _ rfl zeroH zero_hw ?_; intro w7 r7 s7 g7)
      | (with_reducible refine wpList_alloc_row (o := ⟨some 9, _, _, _, _, _⟩) rfl _ rfl zeroR zero_rs ?_; intro w8 r8 s8 g8; have q8 := r7.kept g8 (by simp); have k8 := below_kept (grown_below g7 (Nat.le_refl _) (by simp)) g8 (Nat.le_of_lt s7) (by simp))
      | ((with_reducible refine wpList_at ⟨none, .store _ (.tmp 8) _, _, _, _, _⟩ ?_); refine wpList_store_all rfl _ _ _ rfl w6.heap.size rfl _ _ q8 (hx.cs) rfl (hx.cs_one) (hw_zl H16x.out) (hw_size H16x.out) ?_; intro w9 t9 g9; have q9 := r8.kept g9 (by simp; omega); have k9 := below_kept k8 g9 k8.size (by rintro q hq; cases hq; exact Nat.le_refl _))
      | ((with_reducible refine wpList_at ⟨none, .store _ (.tmp 9) _, _, _, _, _⟩ ?_); refine wpList_store_all rfl _ _ _ rfl w7.heap.size rfl _ _ q9 (RR.cs) rfl (RR.cs_one) rfl (by kernel_rfl) ?_; intro w10 rr_10 g10; have k10 : Below w6.heap.size w6 w10 := below_kept k9 g10 k9.size (by rintro q hq; cases hq; exact Nat.le_of_lt s7); have rx_10 := t9.kept g10 (by simp; omega); have B10 := B6.trans (k10.mono B6.size); have kh_10 := kh_6.on k10; have rh_10 := rh_6.on k10; have ra_10 := ra_6.on k10; have rf_10 := rf_6.on k10; have kx_10 := kx.on k10; have IXW := kx_10.in_; have IHW := kh_10.in_; clear kh_6 rh_6 ra_6 rf_6; have crh0 := rh_10.cell (j := 0) rfl; have crh1 := rh_10.cell (j := 1) rfl; have cra0 := ra_10.cell (j := 0) rfl; have cra1 := ra_10.cell (j := 1) rfl; have cra2 := ra_10.cell (j := 2) rfl; have cra3 := ra_10.cell (j := 3) rfl; have s10 := rx_10.lt; have v10 := rr_10.lt; clear r7 r8 q8 q9 t9 g7 g8 g9 g10 k8 k9; have crx0 := rx_10.cell (j := 0) rfl; have crx1 := rx_10.cell (j := 1) rfl)
      | ((with_reducible refine wpList_at ⟨some 49, _, _, _, _, _⟩ ?_); refine wpList_valueG rfl _ (by exact exec_loadH _ _ rfl (w6.heap.size) rfl hx H16x.out rx_10) ?_)
      | (with_reducible refine wpList_alloc_row (o := ⟨some 11, _, _, _, _, _⟩) rfl _ rfl zeroH zero_hw ?_; intro w11 r11 s11 g11)
      | ((with_reducible refine wpList_at ⟨none, .store _ (.tmp 11) _, _, _, _, _⟩ ?_); refine wpList_store_all rfl _ _ _ rfl w10.heap.size rfl _ _ r11 (hx.cs) rfl (hx.cs_one) (hw_zl H16x.out) (hw_size H16x.out) ?_; intro w12 ry_12 g12; have k12 : Below w10.heap.size w10 w12 := below_kept (grown_below g11 (Nat.le_refl _) (by simp)) g12 (Nat.le_of_lt s11) (by rintro q hq; cases hq; exact Nat.le_refl _); have B12 := B10.trans (k12.mono B10.size); have kh_12 := kh_10.on k12; have rh_12 := rh_10.on k12; have ra_12 := ra_10.on k12; have rf_12 := rf_10.on k12; have kx_12 := kx_10.on k12; have rx_12 := rx_10.on k12; have rr_12 := rr_10.on k12; clear kh_10 rh_10 ra_10 rf_10 kx_10 rx_10 rr_10; have crh0 := rh_12.cell (j := 0) rfl; have crh1 := rh_12.cell (j := 1) rfl; have cra0 := ra_12.cell (j := 0) rfl; have cra1 := ra_12.cell (j := 1) rfl; have cra2 := ra_12.cell (j := 2) rfl; have cra3 := ra_12.cell (j := 3) rfl; have crx0 := rx_12.cell (j := 0) rfl; have crx1 := rx_12.cell (j := 1) rfl; clear r11 g11 g12; have s12 := ry_12.lt)
      | ((with_reducible refine wpList_at ⟨some 82, _, _, _, _, _⟩ ?_); refine wpList_valueG rfl _ (by exact exec_load1 _ 25 _ rfl ⟨w6.heap.size, 1, none⟩ rfl (.slice hx.B hx.m hx.d) ((rx_12.on ((Below.refl w12.heap.size w12).alloc (Nat.le_refl _) (.cells #[] 9))).cell (j := 1) rfl) _ Try.underlying25 rfl) ?_)
      | (at_builtin; have bb : Below w12.heap.size w12 (w12.alloc (.cells #[] 9)) := (Below.refl _ _).alloc (Nat.le_refl _) _; refine wpList_append_at9 rfl (.tmp 79) (.tmp 82) _ _ rfl w12.heap.size 9 i0 _ 1 16 Try.underlying25 hi0 hz0 hz1 hz2 rfl (.slice (some ⟨w12.heap.size, 0, none⟩) 0 0) _ _ rfl (own_empty w12 9 1 w12.heap.size (Nat.le_refl _)) hx.m (svs hx.fs) (Src.ofReads _ Try.underlying25 (kx_12.2.1.1.alloc (Nat.le_refl _) _) (svs_one _)) (by unfold maxLen; omega) (by omega) (by simp) ?_; intro vA wA owA gA obA; have bA : Below w12.heap.size w12 wA := below_kept bb gA (by simp) (by rintro k hk; simp [Value.ownBlock] at hk; omega); rw [Nat.zero_add, List.nil_append] at owA; obtain ⟨AY, cY, rfl, hnY, hmY, _⟩ := own_form owA; have ryA := ry_12.on bA; have rhA := rh_12.on bA; have rxA := rx_12.on bA; have raA := ra_12.on bA)
      | ((with_reducible refine wpList_at ⟨none, .store _ (.tmp 85) _, _, _, _, _⟩ ?_); refine wpList_store_elem rfl _ _ _ rfl (w10.heap.size) 1 rfl _ _ ryA (.slice AY hx.m cY) rfl rfl (by show 1 < _ + 2; omega) (by kernel_rfl) ?_; intro wS ryS gS; have rhS := rhA.kept gS (by simp; omega); have rxS := rxA.kept gS (by simp; omega); have raS := raA.kept gS (fun e => row_ne raA ryA (by decide) (Option.some.inj e))))
    have okhA := kh_12.on bA
    have okxA := kx_12.on bA
    have IH := kh_12.in_
    have IX := kx_12.in_
    have lA := bA.size
    have lS := gS.size
    have ryS : Row wS (w10.heap.size) 31 (⟨hx.A, hx.n, hx.c, hx.ps, AY, hx.m, cY, hx.fs, hx.rt⟩ : Hw).cs := ryS
    obtain ⟨G, cs, hAY, hG, rG, hnc, htk, hcl, hcm⟩ := own_rowc owA (by omega)
    subst hAY
    have rGS := rG.kept gS (by simp; omega)
    have lG := rG.lt
    have crh1 := rhS.cell (j := 1) (u := .slice h.B h.m h.d) rfl
    rw [hhB] at crh1
    have cry1 := ryS.cell (j := 1) (u := .slice (some ⟨G, 0, none⟩) hx.m cY) rfl
    have cra2 := raS.cell (j := 2) rfl
    have BS0 : Below w.heap.size w wS := below_kept (B12.trans (bA.mono B12.size)) gS (Nat.le_trans B12.size lA) (by rintro q hq; cases hq; omega)
    have hcS := (BS0.cell (by rw [block_of_add]; exact hltb)).trans hco
    refine wp_region_plan (fun w' => w'.cell? ⟨w10.heap.size, 1, none⟩ = some (.slice (some ⟨G, 0, none⟩) hx.m cY) ∧ w'.cell? ⟨w.heap.size, 1, none⟩ = some (.slice (some hd) h.m h.d) ∧ w'.cell? ⟨w1.heap.size, 2, none⟩ = some (.int .i64 (j : Int)) ∧ w'.cell? (hd.add j) = some (.string old)) (.take 0 <| .take 1 <| .take 2 <| .take 3 <| .take 4 <| .take 5 <| .take 6 <| .take 7 <| .take 8 <| .take 9 <| .take 10 <| .take 11 <| .take 12 <| .one 13 <| .done) (by kernel_rfl) (by kernel_rfl) (by kernel_rfl) (fun _ _ _ _ _ h => h) ⟨cry1, crh1, cra2, hcS⟩ ?_
    repeat (refine plan_take _ rfl ?_; (first | ((with_reducible refine wpQuiet_at ⟨some 88, _, _, _, _, _⟩ ?_); refine wpQuiet_valueG rfl _ (by intro _ hS; exact exec_load1 _ 25 _ rfl ⟨w10.heap.size, 1, none⟩ rfl (.slice (some ⟨G, 0, none⟩) hx.m cY) hS.1 _ Try.underlying25 rfl) (wpQuiet_nil ?_); simp only [Act.put, List.setIfInBounds_toArray, List.set_cons_zero, List.set_cons_succ]) | ((with_reducible refine wpQuiet_at ⟨some 90, _, _, _, _, _⟩ ?_); refine wpQuiet_valueG rfl _ (by intro _ hS; exact exec_load1 _ 3 _ rfl ⟨w1.heap.size, 2, none⟩ rfl (.int .i64 (j : Int)) hS.2.2.1 _ Try.underlying3 rfl) (wpQuiet_nil ?_); simp only [Act.put, List.setIfInBounds_toArray, List.set_cons_zero, List.set_cons_succ]) | ((with_reducible refine wpQuiet_at ⟨some 93, _, _, _, _, _⟩ ?_); refine wpQuiet_valueG rfl _ (by intro _ hS; exact exec_load1 _ 25 _ rfl ⟨w.heap.size, 1, none⟩ rfl (.slice (some hd) h.m h.d) hS.2.1 _ Try.underlying25 rfl) (wpQuiet_nil ?_); simp only [Act.put, List.setIfInBounds_toArray, List.set_cons_zero, List.set_cons_succ]) | ((with_reducible refine wpQuiet_at ⟨some 95, _, _, _, _, _⟩ ?_); refine wpQuiet_valueG rfl _ (by intro _ hS; exact exec_load1 _ 3 _ rfl ⟨w1.heap.size, 2, none⟩ rfl (.int .i64 (j : Int)) hS.2.2.1 _ Try.underlying3 rfl) (wpQuiet_nil ?_); simp only [Act.put, List.setIfInBounds_toArray, List.set_cons_zero, List.set_cons_succ]) | ((with_reducible refine wpQuiet_at ⟨some 97, _, _, _, _, _⟩ ?_); refine wpQuiet_valueG rfl _ (by intro _ hS; exact exec_load1 _ 9 _ rfl (hd.add j) rfl (.string old) hS.2.2.2 _ Try.underlying9 rfl) (wpQuiet_nil ?_); simp only [Act.put, List.setIfInBounds_toArray, List.set_cons_zero, List.set_cons_succ]) | (go_big_quiet_step ((intros; rfl)); refine wpQuiet_nil ?_)))
    refine plan_one _ rfl fun K hK => ?_
    refine step_store_elem rfl _ _ _ rfl G j rfl _ _ (show Row wS.drew G 9 cs from rGS) (.string old) rfl rfl (by omega) (by kernel_rfl) ?_
    intro wF rF gF
    have ryF := (show Row wS.drew (w10.heap.size) 31 (⟨hx.A, hx.n, hx.c, hx.ps, some ⟨G, 0, none⟩, hx.m, cY, hx.fs, hx.rt⟩ : Hw).cs from ryS).kept gF (by simp; omega)
    have rhF := (show Row wS.drew (w.heap.size) 31 h.cs from rhS).kept gF (by simp; omega)
    have rxF := (show Row wS.drew (w6.heap.size) 31 hx.cs from rxS).kept gF (by simp; omega)
    have raF := (show Row wS.drew (w1.heap.size) 33 (⟨4, x, (j : Int), s⟩ : DvA).cs from raS).kept gF (fun e => row_ne raS rGS (by decide) (Option.some.inj e))
    have lF : wS.heap.size ≤ wF.heap.size := gF.size
    have BF : Below w.heap.size w wF := below_kept BS0.drew gF BS0.size (by rintro q hq; cases hq; omega)
    have hcF := (BF.cell (by rw [block_of_add]; exact hltb)).trans hco
    refine hK _ _ ⟨ryF.cell (j := 1) rfl, by have := rhF.cell (j := 1) (u := .slice h.B h.m h.d) rfl; rwa [hhB] at this, raF.cell (j := 2) rfl, hcF⟩ ?_
    clear hK K
    refine plan_done ?_
    have nS : ¬ (w10.heap.size < w12.heap.size ∧ w10.heap.size ≠ w10.heap.size) := fun h => h.2 rfl
    have okhS : HwOK wS h := okhA.apart IHW gS (by omega)
    have okxS : HwOK wS hx := okxA.apart IXW gS (by omega)
    have okhF : HwOK wF h := HwOK.apart (w := wS.drew) okhS IHW gF (by omega)
    have okxF : HwOK wF hx := HwOK.apart (w := wS.drew) okxS IXW gF (by omega)
    have owF := own_of_row (base := G) rF (Nat.le_refl _) (by rw [List.length_set]; exact hcl) hnY (by omega) (show (cs.set j (.string old)).take hx.m = svs (hx.fs.set j old) by rw [List.take_set, htk, svs_set])
    have HYF : Hid (hx.fs.set j old = h.fs) := Lib.hid (by rw [HFS.out]; exact write_back HOLD.out HZ.out _)
    have okyF : HwOK wF (⟨hx.A, hx.n, hx.c, hx.ps, some ⟨G, 0, none⟩, hx.m, cY, hx.fs.set j old, hx.rt⟩ : Hw) := ⟨okxF.1, own_flok owF (by rw [HYF.out]; exact hok.2.1.2.2.2), H16x.out⟩
    have HYS : Hid (Hw.s (⟨hx.A, hx.n, hx.c, hx.ps, some ⟨G, 0, none⟩, hx.m, cY, hx.fs.set j old, hx.rt⟩ : Hw) = h.s) := Lib.hid (by show DvS.mk _ _ _ = DvS.mk _ _ _; rw [HBS.out, HRT.out, HYF.out])
    have QS := fun W h1 h2 => Lib.hid (dsame_any9 (⟨hx.A, hx.n, hx.c, hx.ps, some ⟨G, 0, none⟩, hx.m, cY, hx.fs.set j old, hx.rt⟩ : Hw) h W h1 h2 (HYS.out.symm ▸ HSM.out))
    rw [HYS.out, dvSame_refl] at QS
    go_wp2_with (first
      | ((with_reducible refine wpList_at ⟨some 101, _, _, _, _, _⟩ ?_); refine wpList_valueG rfl _ (by exact exec_loadH _ _ rfl (w10.heap.size) rfl (⟨hx.A, hx.n, hx.c, hx.ps, some ⟨G, 0, none⟩, hx.m, cY, hx.fs.set j old, hx.rt⟩ : Hw) H16x.out ryF) ?_)
      | ((with_reducible refine wpList_at ⟨some 102, _, _, _, _, _⟩ ?_); refine wpList_valueG rfl _ (by exact exec_loadH _ _ rfl (w.heap.size) rfl h H16.out rhF) ?_))
    refine ((QS _ okyF okhF).out).mono ?_
    rintro e w13 ⟨rfl, h13⟩
    have B13 := BF.trans (h13.mono BF.size)
    have rh_13 := rhF.on h13
    have rx_13 := rxF.on h13
    go_wp2_with (first
      | ((with_reducible refine wpList_at ⟨some 107, _, _, _, _, _⟩ ?_); refine wpList_valueG rfl _ (by exact exec_loadHR _ _ rfl (w6.heap.size) rfl hx H16x.out rx_13) ?_)
      | ((with_reducible refine wpList_at ⟨some 109, _, _, _, _, _⟩ ?_); refine wpList_valueG rfl _ (by exact exec_loadHR _ _ rfl (w.heap.size) rfl h H16.out rh_13) ?_)
      | ((with_reducible refine wpList_at ⟨some 110, _, _, _, _, _⟩ ?_); refine wpList_valueG rfl _ (by exact exec_eql16b _ _ _ rfl hx.rt h.rt H16x.out H16.out true (decide_eq_true HRT.out) rfl rfl) ?_))
    go_ret
    exact ⟨rfl, B13⟩
end Go.Proofs.Ytkepmhkakkkliaa
