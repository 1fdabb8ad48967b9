/-
  DeviceMatches's walk. Condition: bounded lengths.
-/
import Derived.Test.YtkepmhkakkkliaaSan9
import Derived.Test.YtkepmhkakkkliaaDvR
import Derived.Test.YtkepmhkakkkliaaDvT
namespace Go.Proofs.Ytkepmhkakkkliaa
open Go.RowKit

theorem v_cases {p : Prop} {v : Bool} (h : v = true → p) : v = false ∨ (v = true ∧ p) := by cases v with | false => exact .inl rfl | true => exact .inr ⟨rfl, h rfl⟩
theorem dvNew_sm (rt : List UInt8) (bits : List Int) : dvSm (dvNew rt bits) := by
  unfold dvNew
  cases hb : fuNewBad bits with
  | true =>
    rw [if_pos rfl]
    exact ⟨by decide, fun l hl => by simp at hl, by decide⟩
  | false =>
    rw [if_neg (by decide)]
    have hv := fuNew_valid bits
    refine ⟨by have := valid_len hv; show (fuNew bits).length ≤ _; omega, fun l hl => ?_, by show s9F.length ≤ _; rw [s9_len]; decide⟩
    obtain ⟨k, hk, rfl⟩ := List.mem_iff_getElem.1 hl
    have := (valid_bank hv (List.getElem?_eq_getElem hk)).2.1
    omega
theorem hwin_true (h : Hw) : HwIn (fun _ => True) h := ⟨⟨fun _ _ _ => trivial, fun _ _ _ _ _ => trivial⟩, fun _ _ _ => trivial⟩
set_option maxRecDepth 100000 in
set_option maxHeartbeats 40000000 in
theorem walk91 (h : Hw) (k x c0 : Int) (s : ByteArray) (f : DvF) (A : Option Addr) (n c : Nat) (bits : List Int) (w : World) (hok : HwOK w h) (hr : Reads w w.heap.size 1 A n (ivz bits)) :
    Calls Try.prog 3 #[h.v, (⟨k, x, c0, s⟩ : DvA).v, f.v, .slice A n c] w (TellsB true w) := by
  have HSA := fun W => sanity9_any W
  have HSMA := fun W h1 => Lib.hid (small_any9 h W h1)
  have H16 := Lib.hid hok.h16
  have HIT := Lib.hid hwin_true
  go_enter Try.func3, Try.ntmps3
  go_wp2_with (first
    | ((with_reducible refine wpList_at ⟨some 4, _, _, _, _, _⟩ ?_); refine wpList_box_row rfl _ _ rfl (h.cs) rfl ?_; intro w1 rh_1 s1 g1; have k1 : Below w.heap.size w w1 := grown_below g1 (Nat.le_refl _) (by simp); have B1 : Below w.heap.size w w1 := k1; have kh_1 := hok.on k1; have br_1 := hr.on k1)
    | ((with_reducible refine wpList_at ⟨some 5, _, _, _, _, _⟩ ?_); refine wpList_box_row rfl _ _ rfl ((⟨k, x, c0, s⟩ : DvA).cs) rfl ?_; intro w2 ra_2 s2 g2; have k2 : Below w1.heap.size w1 w2 := grown_below g2 (Nat.le_refl _) (by simp); have B2 := B1.trans (k2.mono B1.size); have kh_2 := kh_1.on k2; have br_2 := br_1.on k2; have rh_2 := rh_1.on k2; clear kh_1 br_1 rh_1; have cra0 := ra_2.cell (j := 0) rfl; have cra1 := ra_2.cell (j := 1) rfl; have cra2 := ra_2.cell (j := 2) rfl; have cra3 := ra_2.cell (j := 3) rfl)
    | ((with_reducible refine wpList_at ⟨some 6, _, _, _, _, _⟩ ?_); refine wpList_box_row rfl _ _ rfl (f.cs) rfl ?_; intro w3 rf_3 s3 g3; have k3 : Below w2.heap.size w2 w3 := grown_below g3 (Nat.le_refl _) (by simp); have B3 := B2.trans (k3.mono B2.size); have kh_3 := kh_2.on k3; have br_3 := br_2.on k3; have rh_3 := rh_2.on k3; have ra_3 := ra_2.on k3; clear kh_2 br_2 rh_2 ra_2; have cra0 := ra_3.cell (j := 0) rfl; have cra1 := ra_3.cell (j := 1) rfl; have cra2 := ra_3.cell (j := 2) rfl; have cra3 := ra_3.cell (j := 3) rfl))
  refine (HSA _).mono ?_
  rintro e w4 ⟨rfl, h4⟩
  have B4 := B3.trans (h4.mono B3.size)
  have kh_4 := kh_3.on h4
  have br_4 := br_3.on h4
  have rh_4 := rh_3.on h4
  have ra_4 := ra_3.on h4
  have rf_4 := rf_3.on h4
  clear kh_3 br_3 rh_3 ra_3 rf_3
  have cra0 := ra_4.cell (j := 0) rfl
  have cra1 := ra_4.cell (j := 1) rfl
  have cra2 := ra_4.cell (j := 2) rfl
  have cra3 := ra_4.cell (j := 3) rfl
  go_wp2_with ((with_reducible refine wpList_at ⟨some 21, _, _, _, _, _⟩ ?_); refine wpList_valueG rfl _ (by exact exec_loadH _ _ rfl (w.heap.size) rfl h H16.out rh_4) ?_)
  refine ((HSMA _ kh_4).out).mono ?_
  rintro e w5 ⟨v, rfl, hv, h5⟩
  have B5 := B4.trans (h5.mono B4.size)
  have kh_5 := kh_4.on h5
  have br_5 := br_4.on h5
  have rh_5 := rh_4.on h5
  have ra_5 := ra_4.on h5
  have rf_5 := rf_4.on h5
  clear kh_4 br_4 rh_4 ra_4 rf_4
  have cra0 := ra_5.cell (j := 0) rfl
  have cra1 := ra_5.cell (j := 1) rfl
  have cra2 := ra_5.cell (j := 2) rfl
  have cra3 := ra_5.cell (j := 3) rfl
  have HV := Lib.hid hv
  clear hv
  rcases v_cases HV.out with rfl | ⟨rfl, hsm, hfv⟩
  · go_wp2_with fail
    go_ret
    exact ⟨rfl, B5⟩
  have HSM := Lib.hid hsm
  clear hsm hfv
  by_cases hs300 : 300 < s.size
  · go_wp2_with fail
    go_ret
    exact ⟨rfl, B5⟩
  by_cases hn6 : 6 < n
  · go_wp2_with fail
    go_ret
    exact ⟨rfl, B5⟩
  have HNB : Hid (n ≤ 9223372036854775806) := Lib.hid (by omega)
  go_wp2_with (first
    | ((with_reducible refine wpList_at ⟨some 37, _, _, _, _, _⟩ ?_); refine wpList_valueG rfl _ (by exact exec_loadH _ _ rfl (w.heap.size) rfl h H16.out rh_5) ?_)
    | ((with_reducible refine wpList_at ⟨some 38, _, _, _, _, _⟩ ?_); refine wpList_valueG rfl _ (by exact exec_loadA _ _ rfl (w1.heap.size) rfl (⟨k, x, c0, s⟩ : DvA) ra_5) ?_)
    | ((with_reducible refine wpList_at ⟨some 39, _, _, _, _, _⟩ ?_); refine wpList_valueG rfl _ (by exact exec_loadT _ _ rfl (w2.heap.size) rfl f rf_5) ?_))
  refine (do_any9 h (⟨k, x, c0, s⟩ : DvA) f _ kh_5 HSM.out).mono ?_
  rintro e w6 ⟨hx, rfl, kx, _, sx, h6⟩
  have B6 := B5.trans (h6.mono B5.size)
  have kh_6 := kh_5.on h6
  have br_6 := br_5.on h6
  have rh_6 := rh_5.on h6
  have ra_6 := ra_5.on h6
  have rf_6 := rf_5.on h6
  clear kh_5 br_5 rh_5 ra_5 rf_5
  have cra0 := ra_6.cell (j := 0) rfl
  have cra1 := ra_6.cell (j := 1) rfl
  have cra2 := ra_6.cell (j := 2) rfl
  have cra3 := ra_6.cell (j := 3) rfl
  have HSx := Lib.hid sx
  have H16x := Lib.hid kx.h16
  clear sx
  go_wp2_with (first
    | (with_reducible refine wpList_alloc_row (o := ⟨some 10, _, _, _, _, _⟩) rfl _ rfl zeroH zero_hw ?_; intro w7 r7 s7 g7)
    | (with_reducible refine wpList_alloc_row (o := ⟨some 11, _, _, _, _, _⟩) rfl _ rfl zeroR zero_rs ?_; intro w8 r8 s8 g8; have q8 := r7.kept g8 (by simp); have k8 := below_kept (grown_below g7 (Nat.le_refl _) (by simp)) g8 (Nat.le_of_lt s7) (by simp))
    | ((with_reducible refine wpList_at ⟨none, .store _ (.tmp 10) _, _, _, _, _⟩ ?_); refine wpList_store_all rfl _ _ _ rfl w6.heap.size rfl _ _ q8 (hx.cs) rfl (hx.cs_one) (hw_zl H16x.out) (hw_size H16x.out) ?_; intro w9 t9 g9; have q9 := r8.kept g9 (by simp; omega); have k9 := below_kept k8 g9 k8.size (by rintro q hq; cases hq; exact Nat.le_refl _))
    | ((with_reducible refine wpList_at ⟨none, .store _ (.tmp 11) _, _, _, _, _⟩ ?_); refine wpList_store_all rfl _ _ _ rfl w7.heap.size rfl _ _ q9 ((dvRs h.s (⟨k, x, c0, s⟩ : DvA) f).cs) rfl ((dvRs h.s (⟨k, x, c0, s⟩ : DvA) f).cs_one) rfl (by kernel_rfl) ?_; intro w10 rr_10 g10; have k10 : Below w6.heap.size w6 w10 := below_kept k9 g10 k9.size (by rintro q hq; cases hq; exact Nat.le_of_lt s7); have rx_10 := t9.kept g10 (by simp; omega); have B10 := B6.trans (k10.mono B6.size); have kh_10 := kh_6.on k10; have br_10 := br_6.on k10; have rh_10 := rh_6.on k10; have ra_10 := ra_6.on k10; have rf_10 := rf_6.on k10; have kx_10 := kx.on k10; clear kh_6 br_6 rh_6 ra_6 rf_6; have cra0 := ra_10.cell (j := 0) rfl; have cra1 := ra_10.cell (j := 1) rfl; have cra2 := ra_10.cell (j := 2) rfl; have cra3 := ra_10.cell (j := 3) rfl; have s10 := rx_10.lt; have v10 := rr_10.lt; clear r7 r8 q8 q9 t9 g7 g8 g9 g10 k8 k9)
    | ((with_reducible refine wpList_at ⟨some 45, _, _, _, _, _⟩ ?_); refine wpList_valueG rfl _ (by exact exec_loadH _ _ rfl (w.heap.size) rfl h H16.out rh_10) ?_)
    | ((with_reducible refine wpList_at ⟨some 46, _, _, _, _, _⟩ ?_); refine wpList_valueG rfl _ (by exact exec_loadA _ _ rfl (w1.heap.size) rfl (⟨k, x, c0, s⟩ : DvA) ra_10) ?_)
    | ((with_reducible refine wpList_at ⟨some 47, _, _, _, _, _⟩ ?_); refine wpList_valueG rfl _ (by exact exec_loadT _ _ rfl (w2.heap.size) rfl f rf_10) ?_))
  refine (rdo_any9 (fun _ => True) h (⟨k, x, c0, s⟩ : DvA) f _ (HIT.out h) kh_10 HSM.out).mono ?_
  rintro e w11 ⟨hy, rfl, ky, _, sy, h11⟩
  have B11 := B10.trans (h11.mono B10.size)
  have kh_11 := kh_10.on h11
  have br_11 := br_10.on h11
  have rh_11 := rh_10.on h11
  have ra_11 := ra_10.on h11
  have rf_11 := rf_10.on h11
  have kx_11 := kx_10.on h11
  have rx_11 := rx_10.on h11
  have rr_11 := rr_10.on h11
  clear kh_10 br_10 rh_10 ra_10 rf_10 kx_10 rx_10 rr_10
  have cra0 := ra_11.cell (j := 0) rfl
  have cra1 := ra_11.cell (j := 1) rfl
  have cra2 := ra_11.cell (j := 2) rfl
  have cra3 := ra_11.cell (j := 3) rfl
  have HSy := Lib.hid sy
  have H16y := Lib.hid ky.h16
  clear sy
  go_wp2_with (first
    | (with_reducible refine wpList_alloc_row (o := ⟨some 13, _, _, _, _, _⟩) rfl _ rfl zeroH zero_hw ?_; intro w12 r12 s12 g12)
    | (with_reducible refine wpList_alloc_row (o := ⟨some 14, _, _, _, _, _⟩) rfl _ rfl zeroR zero_rs ?_; intro w13 r13 s13 g13; have q13 := r12.kept g13 (by simp); have k13 := below_kept (grown_below g12 (Nat.le_refl _) (by simp)) g13 (Nat.le_of_lt s12) (by simp))
    | ((with_reducible refine wpList_at ⟨none, .store _ (.tmp 13) _, _, _, _, _⟩ ?_); refine wpList_store_all rfl _ _ _ rfl w11.heap.size rfl _ _ q13 (hy.cs) rfl (hy.cs_one) (hw_zl H16y.out) (hw_size H16y.out) ?_; intro w14 t14 g14; have q14 := r13.kept g14 (by simp; omega); have k14 := below_kept k13 g14 k13.size (by rintro q hq; cases hq; exact Nat.le_refl _))
    | ((with_reducible refine wpList_at ⟨none, .store _ (.tmp 14) _, _, _, _, _⟩ ?_); refine wpList_store_all rfl _ _ _ rfl w12.heap.size rfl _ _ q14 ((dvRs h.s (⟨k, x, c0, s⟩ : DvA) f).cs) rfl ((dvRs h.s (⟨k, x, c0, s⟩ : DvA) f).cs_one) rfl (by kernel_rfl) ?_; intro w15 rs_15 g15; have k15 : Below w11.heap.size w11 w15 := below_kept k14 g15 k14.size (by rintro q hq; cases hq; exact Nat.le_of_lt s12); have ry_15 := t14.kept g15 (by simp; omega); have B15 := B11.trans (k15.mono B11.size); have kh_15 := kh_11.on k15; have br_15 := br_11.on k15; have rh_15 := rh_11.on k15; have ra_15 := ra_11.on k15; have rf_15 := rf_11.on k15; have kx_15 := kx_11.on k15; have rx_15 := rx_11.on k15; have rr_15 := rr_11.on k15; have ky_15 := ky.on k15; clear kh_11 br_11 rh_11 ra_11 rf_11 kx_11 rx_11 rr_11; have cra0 := ra_15.cell (j := 0) rfl; have cra1 := ra_15.cell (j := 1) rfl; have cra2 := ra_15.cell (j := 2) rfl; have cra3 := ra_15.cell (j := 3) rfl; have s15 := ry_15.lt; have v15 := rs_15.lt; clear r12 r13 q13 q14 t14 g12 g13 g14 g15 k13 k14)
    | ((with_reducible refine wpList_at ⟨some 54, _, _, _, _, _⟩ ?_); refine wpList_valueG rfl _ (by exact exec_loadHR _ _ rfl (w.heap.size) rfl h H16.out rh_15) ?_))
  refine (dnew_any9 h.rt H16.out A n c bits _ br_15 HNB.out).mono ?_
  rintro e w16 ⟨hn, rfl, kn, _, sn, h16⟩
  have B16 := B15.trans (h16.mono B15.size)
  have kh_16 := kh_15.on h16
  have br_16 := br_15.on h16
  have rh_16 := rh_15.on h16
  have ra_16 := ra_15.on h16
  have rf_16 := rf_15.on h16
  have kx_16 := kx_15.on h16
  have rx_16 := rx_15.on h16
  have rr_16 := rr_15.on h16
  have ky_16 := ky_15.on h16
  have ry_16 := ry_15.on h16
  have rs_16 := rs_15.on h16
  clear kh_15 br_15 rh_15 ra_15 rf_15 kx_15 rx_15 rr_15 ky_15 ry_15 rs_15
  have cra0 := ra_16.cell (j := 0) rfl
  have cra1 := ra_16.cell (j := 1) rfl
  have cra2 := ra_16.cell (j := 2) rfl
  have cra3 := ra_16.cell (j := 3) rfl
  have HSn := Lib.hid sn
  have H16n := Lib.hid kn.h16
  clear sn
  go_wp2_with (first
    | (with_reducible refine wpList_alloc_row (o := ⟨some 16, _, _, _, _, _⟩) rfl _ rfl zeroH zero_hw ?_; intro w17 r17 s17 g17)
    | ((with_reducible refine wpList_at ⟨none, .store _ (.tmp 16) _, _, _, _, _⟩ ?_); refine wpList_store_all rfl _ _ _ rfl w16.heap.size rfl _ _ r17 (hn.cs) rfl (hn.cs_one) (hw_zl H16n.out) (hw_size H16n.out) ?_; intro w18 rn_18 g18; have k18 : Below w16.heap.size w16 w18 := below_kept (grown_below g17 (Nat.le_refl _) (by simp)) g18 (Nat.le_of_lt s17) (by rintro q hq; cases hq; exact Nat.le_refl _); have B18 := B16.trans (k18.mono B16.size); have kh_18 := kh_16.on k18; have br_18 := br_16.on k18; have rh_18 := rh_16.on k18; have ra_18 := ra_16.on k18; have rf_18 := rf_16.on k18; have kx_18 := kx_16.on k18; have rx_18 := rx_16.on k18; have rr_18 := rr_16.on k18; have ky_18 := ky_16.on k18; have ry_18 := ry_16.on k18; have rs_18 := rs_16.on k18; have kn_18 := kn.on k18; clear kh_16 br_16 rh_16 ra_16 rf_16 kx_16 rx_16 rr_16 ky_16 ry_16 rs_16; have cra0 := ra_18.cell (j := 0) rfl; have cra1 := ra_18.cell (j := 1) rfl; have cra2 := ra_18.cell (j := 2) rfl; have cra3 := ra_18.cell (j := 3) rfl; clear r17 g17 g18; have s18 := rn_18.lt)
    | ((with_reducible refine wpList_at ⟨some 61, _, _, _, _, _⟩ ?_); refine wpList_valueG rfl _ (by exact exec_loadHR _ _ rfl (w.heap.size) rfl h H16.out rh_18) ?_))
  refine (rnew_any9 h.rt H16.out A n c bits _ br_18 HNB.out).mono ?_
  rintro e w19 ⟨hm, rfl, km, _, sm, h19⟩
  have B19 := B18.trans (h19.mono B18.size)
  have kh_19 := kh_18.on h19
  have br_19 := br_18.on h19
  have rh_19 := rh_18.on h19
  have ra_19 := ra_18.on h19
  have rf_19 := rf_18.on h19
  have kx_19 := kx_18.on h19
  have rx_19 := rx_18.on h19
  have rr_19 := rr_18.on h19
  have ky_19 := ky_18.on h19
  have ry_19 := ry_18.on h19
  have rs_19 := rs_18.on h19
  have kn_19 := kn_18.on h19
  have rn_19 := rn_18.on h19
  clear kh_18 br_18 rh_18 ra_18 rf_18 kx_18 rx_18 rr_18 ky_18 ry_18 rs_18 kn_18 rn_18
  have cra0 := ra_19.cell (j := 0) rfl
  have cra1 := ra_19.cell (j := 1) rfl
  have cra2 := ra_19.cell (j := 2) rfl
  have cra3 := ra_19.cell (j := 3) rfl
  have HSm := Lib.hid sm
  have H16m := Lib.hid km.h16
  clear sm
  go_wp2_with (first
    | (with_reducible refine wpList_alloc_row (o := ⟨some 18, _, _, _, _, _⟩) rfl _ rfl zeroH zero_hw ?_; intro w20 r20 s20 g20)
    | ((with_reducible refine wpList_at ⟨none, .store _ (.tmp 18) _, _, _, _, _⟩ ?_); refine wpList_store_all rfl _ _ _ rfl w19.heap.size rfl _ _ r20 (hm.cs) rfl (hm.cs_one) (hw_zl H16m.out) (hw_size H16m.out) ?_; intro w21 rm_21 g21; have k21 : Below w19.heap.size w19 w21 := below_kept (grown_below g20 (Nat.le_refl _) (by simp)) g21 (Nat.le_of_lt s20) (by rintro q hq; cases hq; exact Nat.le_refl _); have B21 := B19.trans (k21.mono B19.size); have kh_21 := kh_19.on k21; have br_21 := br_19.on k21; have rh_21 := rh_19.on k21; have ra_21 := ra_19.on k21; have rf_21 := rf_19.on k21; have kx_21 := kx_19.on k21; have rx_21 := rx_19.on k21; have rr_21 := rr_19.on k21; have ky_21 := ky_19.on k21; have ry_21 := ry_19.on k21; have rs_21 := rs_19.on k21; have kn_21 := kn_19.on k21; have rn_21 := rn_19.on k21; have km_21 := km.on k21; clear kh_19 br_19 rh_19 ra_19 rf_19 kx_19 rx_19 rr_19 ky_19 ry_19 rs_19 kn_19 rn_19; have cra0 := ra_21.cell (j := 0) rfl; have cra1 := ra_21.cell (j := 1) rfl; have cra2 := ra_21.cell (j := 2) rfl; have cra3 := ra_21.cell (j := 3) rfl; clear r20 g20 g21; have s21 := rm_21.lt))
  generalize dvErr h.s (⟨k, x, c0, s⟩ : DvA) = E at *
  generalize fuNewE bits = EN at *
  have HXY : Hid (dvSame hx.s hy.s = true) := Lib.hid (by rw [HSx.out, HSy.out]; exact dvSame_refl)
  have HNM : Hid (dvSame hn.s hm.s = true) := Lib.hid (by rw [HSn.out, HSm.out]; exact dvSame_refl)
  have HXS : Hid (dvSm hx.s) := Lib.hid (by rw [HSx.out]; exact dvSt_sm HSM.out)
  have HNS : Hid (dvSm hn.s) := Lib.hid (by rw [HSn.out]; exact dvNew_sm _ _)
  have QXY := fun W h1 h2 => Lib.hid (rsame_any9 hx hy W h1 h2 HXS.out)
  rw [HXY.out] at QXY
  have QNM := fun W h1 h2 => Lib.hid (rsame_any9 hn hm W h1 h2 HNS.out)
  rw [HNM.out] at QNM
  have QD := fun W h1 h2 => Lib.hid (dsame_any9 h hx W h1 h2 HSM.out)
  have QR := fun W h1 h2 => Lib.hid (rsame_any9 h hx W h1 h2 HSM.out)
  generalize dvSame h.s hx.s = V at *
  have hee : (E == E) = true := by simp
  have hnn : (EN == EN) = true := by simp
  have hvv : (V == V) = true := by simp
  try simp only [Act.put, List.setIfInBounds_toArray, List.set_cons_zero, List.set_cons_succ]
  have bq0 : Below w.heap.size w w21.drew := B21.drew
  have rhq := rh_21.drew
  have rxq := rx_21.drew
  have ryq := ry_21.drew
  have rrq := rr_21.drew
  have rsq := rs_21.drew
  have rnq := rn_21.drew
  have rmq := rm_21.drew
  have khq : HwOK w21.drew h := kh_21
  have kxq : HwOK w21.drew hx := kx_21
  have kyq : HwOK w21.drew hy := ky_21
  have knq : HwOK w21.drew hn := kn_21
  have kmq : HwOK w21.drew hm := km_21
  refine wp_region_plan (fun w' => Row w' (w.heap.size) 31 (h).cs ∧ Row w' (w6.heap.size) 31 (hx).cs ∧ Row w' (w11.heap.size) 31 (hy).cs ∧ Row w' (w7.heap.size) 40 ((dvRs h.s (⟨k, x, c0, s⟩ : DvA) f)).cs ∧ Row w' (w12.heap.size) 40 ((dvRs h.s (⟨k, x, c0, s⟩ : DvA) f)).cs ∧ Row w' (w16.heap.size) 31 (hn).cs ∧ Row w' (w19.heap.size) 31 (hm).cs) (.take 0 <| .take 1 <| .take 2 <| .take 3 <| .one 4 <| .take 5 <| .take 6 <| .take 7 <| .take 8 <| .take 9 <| .take 10 <| .take 11 <| .take 12 <| .take 13 <| .take 14 <| .take 15 <| .take 16 <| .take 17 <| .take 18 <| .take 20 <| .take 21 <| .one 19 <| .one 22 <| .take 23 <| .take 24 <| .take 25 <| .take 26 <| .take 27 <| .one 28 <| .take 29 <| .take 30 <| .take 31 <| .take 32 <| .take 33 <| .take 34 <| .take 35 <| .done) (by kernel_rfl) (by kernel_rfl) (by kernel_rfl) (fun _ _ _ _ _ h => h) ⟨rhq, rxq, ryq, rrq, rsq, rnq, rmq⟩ ?_
  repeat (refine plan_take _ rfl ?_; (first | ((with_reducible refine wpQuiet_at ⟨some 68, _, _, _, _, _⟩ ?_); refine wpQuiet_valueG rfl _ (by intro _ hS; exact exec_loadH _ _ rfl (w6.heap.size) rfl hx H16x.out hS.2.1) (wpQuiet_nil ?_); simp only [Act.put, List.setIfInBounds_toArray, List.set_cons_zero, List.set_cons_succ]) | ((with_reducible refine wpQuiet_at ⟨some 69, _, _, _, _, _⟩ ?_); refine wpQuiet_valueG rfl _ (by intro _ hS; exact exec_loadH _ _ rfl (w11.heap.size) rfl hy H16y.out hS.2.2.1) (wpQuiet_nil ?_); simp only [Act.put, List.setIfInBounds_toArray, List.set_cons_zero, List.set_cons_succ]) | ((with_reducible refine wpQuiet_at ⟨some 73, _, _, _, _, _⟩ ?_); refine wpQuiet_valueG rfl _ (by intro _ hS; exact exec_loadR _ _ rfl (w7.heap.size) rfl (dvRs h.s (⟨k, x, c0, s⟩ : DvA) f) hS.2.2.2.1) (wpQuiet_nil ?_); simp only [Act.put, List.setIfInBounds_toArray, List.set_cons_zero, List.set_cons_succ]) | ((with_reducible refine wpQuiet_at ⟨some 74, _, _, _, _, _⟩ ?_); refine wpQuiet_valueG rfl _ (by intro _ hS; exact exec_loadR _ _ rfl (w12.heap.size) rfl (dvRs h.s (⟨k, x, c0, s⟩ : DvA) f) hS.2.2.2.2.1) (wpQuiet_nil ?_); simp only [Act.put, List.setIfInBounds_toArray, List.set_cons_zero, List.set_cons_succ]) | ((with_reducible refine wpQuiet_at ⟨some 75, _, _, _, _, _⟩ ?_); refine wpQuiet_valueG rfl _ (by intro _ hS; exact exec_eql_rs _ _ _ rfl (dvRs h.s (⟨k, x, c0, s⟩ : DvA) f) rfl rfl) (wpQuiet_nil ?_); simp only [Act.put, List.setIfInBounds_toArray, List.set_cons_zero, List.set_cons_succ]) | ((with_reducible refine wpQuiet_at ⟨some 83, _, _, _, _, _⟩ ?_); refine wpQuiet_valueG rfl _ (by intro _ hS; exact exec_loadH _ _ rfl (w.heap.size) rfl h H16.out hS.1) (wpQuiet_nil ?_); simp only [Act.put, List.setIfInBounds_toArray, List.set_cons_zero, List.set_cons_succ]) | ((with_reducible refine wpQuiet_at ⟨some 84, _, _, _, _, _⟩ ?_); refine wpQuiet_valueG rfl _ (by intro _ hS; exact exec_loadH _ _ rfl (w6.heap.size) rfl hx H16x.out hS.2.1) (wpQuiet_nil ?_); simp only [Act.put, List.setIfInBounds_toArray, List.set_cons_zero, List.set_cons_succ]) | ((with_reducible refine wpQuiet_at ⟨some 86, _, _, _, _, _⟩ ?_); refine wpQuiet_valueG rfl _ (by intro _ hS; exact exec_loadH _ _ rfl (w.heap.size) rfl h H16.out hS.1) (wpQuiet_nil ?_); simp only [Act.put, List.setIfInBounds_toArray, List.set_cons_zero, List.set_cons_succ]) | ((with_reducible refine wpQuiet_at ⟨some 87, _, _, _, _, _⟩ ?_); refine wpQuiet_valueG rfl _ (by intro _ hS; exact exec_loadH _ _ rfl (w6.heap.size) rfl hx H16x.out hS.2.1) (wpQuiet_nil ?_); simp only [Act.put, List.setIfInBounds_toArray, List.set_cons_zero, List.set_cons_succ]) | ((with_reducible refine wpQuiet_at ⟨some 92, _, _, _, _, _⟩ ?_); refine wpQuiet_valueG rfl _ (by intro _ hS; exact exec_loadH _ _ rfl (w16.heap.size) rfl hn H16n.out hS.2.2.2.2.2.1) (wpQuiet_nil ?_); simp only [Act.put, List.setIfInBounds_toArray, List.set_cons_zero, List.set_cons_succ]) | ((with_reducible refine wpQuiet_at ⟨some 93, _, _, _, _, _⟩ ?_); refine wpQuiet_valueG rfl _ (by intro _ hS; exact exec_loadH _ _ rfl (w19.heap.size) rfl hm H16m.out hS.2.2.2.2.2.2) (wpQuiet_nil ?_); simp only [Act.put, List.setIfInBounds_toArray, List.set_cons_zero, List.set_cons_succ]) | (go_big_quiet_step ((intros; rfl)); refine wpQuiet_nil ?_)))
  refine plan_one _ rfl fun K hK => ?_
  go_simp
  refine ((QXY _ kxq kyq).out).mono ?_
  rintro e wu1 ⟨rfl, hu1⟩
  have rhu1 := rhq.on hu1
  have rxu1 := rxq.on hu1
  have ryu1 := ryq.on hu1
  have rru1 := rrq.on hu1
  have rsu1 := rsq.on hu1
  have rnu1 := rnq.on hu1
  have rmu1 := rmq.on hu1
  have khu1 := khq.on hu1
  have kxu1 := kxq.on hu1
  have kyu1 := kyq.on hu1
  have knu1 := knq.on hu1
  have kmu1 := kmq.on hu1
  have bu1 := bq0.trans (hu1.mono bq0.size)
  have zu1 := hu1.size
  refine hK _ _ ⟨rhu1, rxu1, ryu1, rru1, rsu1, rnu1, rmu1⟩ ?_
  clear hK K
  repeat (refine plan_take _ rfl ?_; (first | ((with_reducible refine wpQuiet_at ⟨some 68, _, _, _, _, _⟩ ?_); refine wpQuiet_valueG rfl _ (by intro _ hS; exact exec_loadH _ _ rfl (w6.heap.size) rfl hx H16x.out hS.2.1) (wpQuiet_nil ?_); simp only [Act.put, List.setIfInBounds_toArray, List.set_cons_zero, List.set_cons_succ]) | ((with_reducible refine wpQuiet_at ⟨some 69, _, _, _, _, _⟩ ?_); refine wpQuiet_valueG rfl _ (by intro _ hS; exact exec_loadH _ _ rfl (w11.heap.size) rfl hy H16y.out hS.2.2.1) (wpQuiet_nil ?_); simp only [Act.put, List.setIfInBounds_toArray, List.set_cons_zero, List.set_cons_succ]) | ((with_reducible refine wpQuiet_at ⟨some 73, _, _, _, _, _⟩ ?_); refine wpQuiet_valueG rfl _ (by intro _ hS; exact exec_loadR _ _ rfl (w7.heap.size) rfl (dvRs h.s (⟨k, x, c0, s⟩ : DvA) f) hS.2.2.2.1) (wpQuiet_nil ?_); simp only [Act.put, List.setIfInBounds_toArray, List.set_cons_zero, List.set_cons_succ]) | ((with_reducible refine wpQuiet_at ⟨some 74, _, _, _, _, _⟩ ?_); refine wpQuiet_valueG rfl _ (by intro _ hS; exact exec_loadR _ _ rfl (w12.heap.size) rfl (dvRs h.s (⟨k, x, c0, s⟩ : DvA) f) hS.2.2.2.2.1) (wpQuiet_nil ?_); simp only [Act.put, List.setIfInBounds_toArray, List.set_cons_zero, List.set_cons_succ]) | ((with_reducible refine wpQuiet_at ⟨some 75, _, _, _, _, _⟩ ?_); refine wpQuiet_valueG rfl _ (by intro _ hS; exact exec_eql_rs _ _ _ rfl (dvRs h.s (⟨k, x, c0, s⟩ : DvA) f) rfl rfl) (wpQuiet_nil ?_); simp only [Act.put, List.setIfInBounds_toArray, List.set_cons_zero, List.set_cons_succ]) | ((with_reducible refine wpQuiet_at ⟨some 83, _, _, _, _, _⟩ ?_); refine wpQuiet_valueG rfl _ (by intro _ hS; exact exec_loadH _ _ rfl (w.heap.size) rfl h H16.out hS.1) (wpQuiet_nil ?_); simp only [Act.put, List.setIfInBounds_toArray, List.set_cons_zero, List.set_cons_succ]) | ((with_reducible refine wpQuiet_at ⟨some 84, _, _, _, _, _⟩ ?_); refine wpQuiet_valueG rfl _ (by intro _ hS; exact exec_loadH _ _ rfl (w6.heap.size) rfl hx H16x.out hS.2.1) (wpQuiet_nil ?_); simp only [Act.put, List.setIfInBounds_toArray, List.set_cons_zero, List.set_cons_succ]) | ((with_reducible refine wpQuiet_at ⟨some 86, _, _, _, _, _⟩ ?_); refine wpQuiet_valueG rfl _ (by intro _ hS; exact exec_loadH _ _ rfl (w.heap.size) rfl h H16.out hS.1) (wpQuiet_nil ?_); simp only [Act.put, List.setIfInBounds_toArray, List.set_cons_zero, List.set_cons_succ]) | ((with_reducible refine wpQuiet_at ⟨some 87, _, _, _, _, _⟩ ?_); refine wpQuiet_valueG rfl _ (by intro _ hS; exact exec_loadH _ _ rfl (w6.heap.size) rfl hx H16x.out hS.2.1) (wpQuiet_nil ?_); simp only [Act.put, List.setIfInBounds_toArray, List.set_cons_zero, List.set_cons_succ]) | ((with_reducible refine wpQuiet_at ⟨some 92, _, _, _, _, _⟩ ?_); refine wpQuiet_valueG rfl _ (by intro _ hS; exact exec_loadH _ _ rfl (w16.heap.size) rfl hn H16n.out hS.2.2.2.2.2.1) (wpQuiet_nil ?_); simp only [Act.put, List.setIfInBounds_toArray, List.set_cons_zero, List.set_cons_succ]) | ((with_reducible refine wpQuiet_at ⟨some 93, _, _, _, _, _⟩ ?_); refine wpQuiet_valueG rfl _ (by intro _ hS; exact exec_loadH _ _ rfl (w19.heap.size) rfl hm H16m.out hS.2.2.2.2.2.2) (wpQuiet_nil ?_); simp only [Act.put, List.setIfInBounds_toArray, List.set_cons_zero, List.set_cons_succ]) | (go_big_quiet_step ((intros; rfl)); refine wpQuiet_nil ?_)))
  refine plan_one _ rfl fun K hK => ?_
  go_simp
  refine ((QD _ khu1 kxu1).out).mono ?_
  rintro e wu2 ⟨rfl, hu2⟩
  have rhu2 := rhu1.on hu2
  have rxu2 := rxu1.on hu2
  have ryu2 := ryu1.on hu2
  have rru2 := rru1.on hu2
  have rsu2 := rsu1.on hu2
  have rnu2 := rnu1.on hu2
  have rmu2 := rmu1.on hu2
  have khu2 := khu1.on hu2
  have kxu2 := kxu1.on hu2
  have kyu2 := kyu1.on hu2
  have knu2 := knu1.on hu2
  have kmu2 := kmu1.on hu2
  have bu2 := bu1.trans (hu2.mono bu1.size)
  have zu2 := hu2.size
  refine hK _ _ ⟨rhu2, rxu2, ryu2, rru2, rsu2, rnu2, rmu2⟩ ?_
  clear hK K
  refine plan_one _ rfl fun K hK => ?_
  go_simp
  refine ((QR _ khu2 kxu2).out).mono ?_
  rintro e wu3 ⟨rfl, hu3⟩
  have rhu3 := rhu2.on hu3
  have rxu3 := rxu2.on hu3
  have ryu3 := ryu2.on hu3
  have rru3 := rru2.on hu3
  have rsu3 := rsu2.on hu3
  have rnu3 := rnu2.on hu3
  have rmu3 := rmu2.on hu3
  have khu3 := khu2.on hu3
  have kxu3 := kxu2.on hu3
  have kyu3 := kyu2.on hu3
  have knu3 := knu2.on hu3
  have kmu3 := kmu2.on hu3
  have bu3 := bu2.trans (hu3.mono bu2.size)
  have zu3 := hu3.size
  refine hK _ _ ⟨rhu3, rxu3, ryu3, rru3, rsu3, rnu3, rmu3⟩ ?_
  clear hK K
  repeat (refine plan_take _ rfl ?_; (first | ((with_reducible refine wpQuiet_at ⟨some 68, _, _, _, _, _⟩ ?_); refine wpQuiet_valueG rfl _ (by intro _ hS; exact exec_loadH _ _ rfl (w6.heap.size) rfl hx H16x.out hS.2.1) (wpQuiet_nil ?_); simp only [Act.put, List.setIfInBounds_toArray, List.set_cons_zero, List.set_cons_succ]) | ((with_reducible refine wpQuiet_at ⟨some 69, _, _, _, _, _⟩ ?_); refine wpQuiet_valueG rfl _ (by intro _ hS; exact exec_loadH _ _ rfl (w11.heap.size) rfl hy H16y.out hS.2.2.1) (wpQuiet_nil ?_); simp only [Act.put, List.setIfInBounds_toArray, List.set_cons_zero, List.set_cons_succ]) | ((with_reducible refine wpQuiet_at ⟨some 73, _, _, _, _, _⟩ ?_); refine wpQuiet_valueG rfl _ (by intro _ hS; exact exec_loadR _ _ rfl (w7.heap.size) rfl (dvRs h.s (⟨k, x, c0, s⟩ : DvA) f) hS.2.2.2.1) (wpQuiet_nil ?_); simp only [Act.put, List.setIfInBounds_toArray, List.set_cons_zero, List.set_cons_succ]) | ((with_reducible refine wpQuiet_at ⟨some 74, _, _, _, _, _⟩ ?_); refine wpQuiet_valueG rfl _ (by intro _ hS; exact exec_loadR _ _ rfl (w12.heap.size) rfl (dvRs h.s (⟨k, x, c0, s⟩ : DvA) f) hS.2.2.2.2.1) (wpQuiet_nil ?_); simp only [Act.put, List.setIfInBounds_toArray, List.set_cons_zero, List.set_cons_succ]) | ((with_reducible refine wpQuiet_at ⟨some 75, _, _, _, _, _⟩ ?_); refine wpQuiet_valueG rfl _ (by intro _ hS; exact exec_eql_rs _ _ _ rfl (dvRs h.s (⟨k, x, c0, s⟩ : DvA) f) rfl rfl) (wpQuiet_nil ?_); simp only [Act.put, List.setIfInBounds_toArray, List.set_cons_zero, List.set_cons_succ]) | ((with_reducible refine wpQuiet_at ⟨some 83, _, _, _, _, _⟩ ?_); refine wpQuiet_valueG rfl _ (by intro _ hS; exact exec_loadH _ _ rfl (w.heap.size) rfl h H16.out hS.1) (wpQuiet_nil ?_); simp only [Act.put, List.setIfInBounds_toArray, List.set_cons_zero, List.set_cons_succ]) | ((with_reducible refine wpQuiet_at ⟨some 84, _, _, _, _, _⟩ ?_); refine wpQuiet_valueG rfl _ (by intro _ hS; exact exec_loadH _ _ rfl (w6.heap.size) rfl hx H16x.out hS.2.1) (wpQuiet_nil ?_); simp only [Act.put, List.setIfInBounds_toArray, List.set_cons_zero, List.set_cons_succ]) | ((with_reducible refine wpQuiet_at ⟨some 86, _, _, _, _, _⟩ ?_); refine wpQuiet_valueG rfl _ (by intro _ hS; exact exec_loadH _ _ rfl (w.heap.size) rfl h H16.out hS.1) (wpQuiet_nil ?_); simp only [Act.put, List.setIfInBounds_toArray, List.set_cons_zero, List.set_cons_succ]) | ((with_reducible refine wpQuiet_at ⟨some 87, _, _, _, _, _⟩ ?_); refine wpQuiet_valueG rfl _ (by intro _ hS; exact exec_loadH _ _ rfl (w6.heap.size) rfl hx H16x.out hS.2.1) (wpQuiet_nil ?_); simp only [Act.put, List.setIfInBounds_toArray, List.set_cons_zero, List.set_cons_succ]) | ((with_reducible refine wpQuiet_at ⟨some 92, _, _, _, _, _⟩ ?_); refine wpQuiet_valueG rfl _ (by intro _ hS; exact exec_loadH _ _ rfl (w16.heap.size) rfl hn H16n.out hS.2.2.2.2.2.1) (wpQuiet_nil ?_); simp only [Act.put, List.setIfInBounds_toArray, List.set_cons_zero, List.set_cons_succ]) | ((with_reducible refine wpQuiet_at ⟨some 93, _, _, _, _, _⟩ ?_); refine wpQuiet_valueG rfl _ (by intro _ hS; exact exec_loadH _ _ rfl (w19.heap.size) rfl hm H16m.out hS.2.2.2.2.2.2) (wpQuiet_nil ?_); simp only [Act.put, List.setIfInBounds_toArray, List.set_cons_zero, List.set_cons_succ]) | (go_big_quiet_step ((intros; rfl)); refine wpQuiet_nil ?_)))
  refine plan_one _ rfl fun K hK => ?_
  go_simp
  refine ((QNM _ knu3 kmu3).out).mono ?_
  rintro e wu4 ⟨rfl, hu4⟩
  have rhu4 := rhu3.on hu4
  have rxu4 := rxu3.on hu4
  have ryu4 := ryu3.on hu4
  have rru4 := rru3.on hu4
  have rsu4 := rsu3.on hu4
  have rnu4 := rnu3.on hu4
  have rmu4 := rmu3.on hu4
  have khu4 := khu3.on hu4
  have kxu4 := kxu3.on hu4
  have kyu4 := kyu3.on hu4
  have knu4 := knu3.on hu4
  have kmu4 := kmu3.on hu4
  have bu4 := bu3.trans (hu4.mono bu3.size)
  have zu4 := hu4.size
  refine hK _ _ ⟨rhu4, rxu4, ryu4, rru4, rsu4, rnu4, rmu4⟩ ?_
  clear hK K
  repeat (refine plan_take _ rfl ?_; (first | ((with_reducible refine wpQuiet_at ⟨some 68, _, _, _, _, _⟩ ?_); refine wpQuiet_valueG rfl _ (by intro _ hS; exact exec_loadH _ _ rfl (w6.heap.size) rfl hx H16x.out hS.2.1) (wpQuiet_nil ?_); simp only [Act.put, List.setIfInBounds_toArray, List.set_cons_zero, List.set_cons_succ]) | ((with_reducible refine wpQuiet_at ⟨some 69, _, _, _, _, _⟩ ?_); refine wpQuiet_valueG rfl _ (by intro _ hS; exact exec_loadH _ _ rfl (w11.heap.size) rfl hy H16y.out hS.2.2.1) (wpQuiet_nil ?_); simp only [Act.put, List.setIfInBounds_toArray, List.set_cons_zero, List.set_cons_succ]) | ((with_reducible refine wpQuiet_at ⟨some 73, _, _, _, _, _⟩ ?_); refine wpQuiet_valueG rfl _ (by intro _ hS; exact exec_loadR _ _ rfl (w7.heap.size) rfl (dvRs h.s (⟨k, x, c0, s⟩ : DvA) f) hS.2.2.2.1) (wpQuiet_nil ?_); simp only [Act.put, List.setIfInBounds_toArray, List.set_cons_zero, List.set_cons_succ]) | ((with_reducible refine wpQuiet_at ⟨some 74, _, _, _, _, _⟩ ?_); refine wpQuiet_valueG rfl _ (by intro _ hS; exact exec_loadR _ _ rfl (w12.heap.size) rfl (dvRs h.s (⟨k, x, c0, s⟩ : DvA) f) hS.2.2.2.2.1) (wpQuiet_nil ?_); simp only [Act.put, List.setIfInBounds_toArray, List.set_cons_zero, List.set_cons_succ]) | ((with_reducible refine wpQuiet_at ⟨some 75, _, _, _, _, _⟩ ?_); refine wpQuiet_valueG rfl _ (by intro _ hS; exact exec_eql_rs _ _ _ rfl (dvRs h.s (⟨k, x, c0, s⟩ : DvA) f) rfl rfl) (wpQuiet_nil ?_); simp only [Act.put, List.setIfInBounds_toArray, List.set_cons_zero, List.set_cons_succ]) | ((with_reducible refine wpQuiet_at ⟨some 83, _, _, _, _, _⟩ ?_); refine wpQuiet_valueG rfl _ (by intro _ hS; exact exec_loadH _ _ rfl (w.heap.size) rfl h H16.out hS.1) (wpQuiet_nil ?_); simp only [Act.put, List.setIfInBounds_toArray, List.set_cons_zero, List.set_cons_succ]) | ((with_reducible refine wpQuiet_at ⟨some 84, _, _, _, _, _⟩ ?_); refine wpQuiet_valueG rfl _ (by intro _ hS; exact exec_loadH _ _ rfl (w6.heap.size) rfl hx H16x.out hS.2.1) (wpQuiet_nil ?_); simp only [Act.put, List.setIfInBounds_toArray, List.set_cons_zero, List.set_cons_succ]) | ((with_reducible refine wpQuiet_at ⟨some 86, _, _, _, _, _⟩ ?_); refine wpQuiet_valueG rfl _ (by intro _ hS; exact exec_loadH _ _ rfl (w.heap.size) rfl h H16.out hS.1) (wpQuiet_nil ?_); simp only [Act.put, List.setIfInBounds_toArray, List.set_cons_zero, List.set_cons_succ]) | ((with_reducible refine wpQuiet_at ⟨some 87, _, _, _, _, _⟩ ?_); refine wpQuiet_valueG rfl _ (by intro _ hS; exact exec_loadH _ _ rfl (w6.heap.size) rfl hx H16x.out hS.2.1) (wpQuiet_nil ?_); simp only [Act.put, List.setIfInBounds_toArray, List.set_cons_zero, List.set_cons_succ]) | ((with_reducible refine wpQuiet_at ⟨some 92, _, _, _, _, _⟩ ?_); refine wpQuiet_valueG rfl _ (by intro _ hS; exact exec_loadH _ _ rfl (w16.heap.size) rfl hn H16n.out hS.2.2.2.2.2.1) (wpQuiet_nil ?_); simp only [Act.put, List.setIfInBounds_toArray, List.set_cons_zero, List.set_cons_succ]) | ((with_reducible refine wpQuiet_at ⟨some 93, _, _, _, _, _⟩ ?_); refine wpQuiet_valueG rfl _ (by intro _ hS; exact exec_loadH _ _ rfl (w19.heap.size) rfl hm H16m.out hS.2.2.2.2.2.2) (wpQuiet_nil ?_); simp only [Act.put, List.setIfInBounds_toArray, List.set_cons_zero, List.set_cons_succ]) | (go_big_quiet_step ((intros; rfl)); refine wpQuiet_nil ?_)))
  refine plan_done ?_
  go_wp2_with fail
  go_ret
  exact ⟨rfl, bu4⟩
end Go.Proofs.Ytkepmhkakkkliaa
