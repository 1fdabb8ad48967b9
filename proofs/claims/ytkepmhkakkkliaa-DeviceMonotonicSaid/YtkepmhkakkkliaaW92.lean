/-
  DeviceAll's walk. Condition: bounded lengths.
-/
import Derived.Test.YtkepmhkakkkliaaSan9
import Derived.Test.YtkepmhkakkkliaaDvRA
import Derived.Test.YtkepmhkakkkliaaDvT
namespace Go.Proofs.Ytkepmhkakkkliaa
open Go.RowKit

theorem v_cases9 {p : Prop} {v : Bool} (h : v = true → p) : v = false ∨ (v = true ∧ p) := by cases v with | false => exact .inl rfl | true => exact .inr ⟨rfl, h rfl⟩
theorem dvAll_len : ∀ (l : List DvA) (s : DvS) (rs : List DvR) (fl : List DvF), (dvAll s rs l fl).2.1.length ≤ rs.length + l.length
  | [], s, rs, _ => Nat.le_refl _
  | a :: l, s, rs, fl => by
    by_cases he : dvErr s a = 0
    · cases hc : (fl.headD noF).cut with
      | true => rw [dvAll_cut he hc]; exact Nat.le_add_right _ _
      | false =>
        rw [dvAll_go he hc]
        refine Nat.le_trans (dvAll_len l _ _ _) ?_
        rw [List.length_append, List.length_cons]
        simp
        omega
    · rw [dvAll_err he]
      exact Nat.le_add_right _ _
theorem dvAll_sm : ∀ (l : List DvA) (s : DvS) (rs : List DvR) (fl : List DvF), dvSm s → dvSm (dvAll s rs l fl).1
  | [], s, rs, _, h => h
  | a :: l, s, rs, fl, h => by
    by_cases he : dvErr s a = 0
    · cases hc : (fl.headD noF).cut with
      | true => rw [dvAll_cut he hc]; exact dvSt_sm h
      | false =>
        rw [dvAll_go he hc]
        exact dvAll_sm l _ _ _ (dvSt_sm h)
    · rw [dvAll_err he]
      exact h
set_option maxRecDepth 100000 in
set_option maxHeartbeats 40000000 in
theorem walk92 (h : Hw) (A B : Option Addr) (n c m d : Nat) (l : List DvA) (fl : List DvF) (w : World) (hok : HwOK w h) (hr : Reads w w.heap.size 4 A n (l.flatMap DvA.cs)) (hf : Reads w w.heap.size 3 B m (fl.flatMap DvF.cs)) :
    Calls Try.prog 4 #[h.v, .slice A n c, .slice B m d] w (TellsB true w) := by
  have HSA := fun W => sanity9_any W
  have HSMA := fun W h1 => Lib.hid (small_any9 h W h1)
  have H16 := Lib.hid hok.h16
  go_enter Try.func4, Try.ntmps4
  go_wp2_with ((with_reducible refine wpList_at ⟨some 3, _, _, _, _, _⟩ ?_); refine wpList_box_row rfl _ _ rfl (h.cs) rfl ?_; intro w1 rh_1 s1 g1; have k1 : Below w.heap.size w w1 := grown_below g1 (Nat.le_refl _) (by simp); have B1 : Below w.heap.size w w1 := k1; have kh_1 := hok.on k1; have lr_1 := hr.on k1; have fr_1 := hf.on k1)
  refine (HSA _).mono ?_
  rintro e w2 ⟨rfl, h2⟩
  have B2 := B1.trans (h2.mono B1.size)
  have kh_2 := kh_1.on h2
  have lr_2 := lr_1.on h2
  have fr_2 := fr_1.on h2
  have rh_2 := rh_1.on h2
  clear kh_1 lr_1 fr_1 rh_1
  go_wp2_with ((with_reducible refine wpList_at ⟨some 15, _, _, _, _, _⟩ ?_); refine wpList_valueG rfl _ (by exact exec_loadH _ _ rfl (w.heap.size) rfl h H16.out rh_2) ?_)
  refine ((HSMA _ kh_2).out).mono ?_
  rintro e w3 ⟨v, rfl, hv, h3⟩
  have B3 := B2.trans (h3.mono B2.size)
  have kh_3 := kh_2.on h3
  have lr_3 := lr_2.on h3
  have fr_3 := fr_2.on h3
  have rh_3 := rh_2.on h3
  clear kh_2 lr_2 fr_2 rh_2
  have HV := Lib.hid hv
  clear hv
  rcases v_cases9 HV.out with rfl | ⟨rfl, hsm, hfv⟩
  · go_wp2_with fail
    go_ret
    exact ⟨rfl, B3⟩
  have HSM := Lib.hid hsm
  clear hsm hfv
  by_cases hn60 : 60 < n
  · go_wp2_with fail
    go_ret
    exact ⟨rfl, B3⟩
  by_cases hm60 : 60 < m
  · go_wp2_with fail
    go_ret
    exact ⟨rfl, B3⟩
  have HDA := fun W h1 h2 h3 => Lib.hid (dall_any9 h A B n c m d l fl W h1 HSM.out h2 h3 (by omega))
  have HRA := fun W h1 h2 h3 => Lib.hid (rall_any9 h A B n c m d l fl W h1 HSM.out h2 h3 (by omega))
  have HLE : Hid (∀ R : DvS × List DvR × Int, R = dvAll h.s [] l fl → R.2.1.length ≤ 1000000 ∧ dvSm R.1) := Lib.hid (fun R e => by rw [e]; exact ⟨Nat.le_trans (dvAll_len l h.s [] fl) (by show 0 + l.length ≤ _; rw [hr.len_of (by decide) DvA.cs_len]; omega), dvAll_sm l h.s [] fl HSM.out⟩)
  generalize hR : dvAll h.s [] l fl = R at *
  have HLR := Lib.hid (HLE.out R rfl)
  clear HLE hR
  obtain ⟨S, RS', E⟩ := R
  simp only at HLR
  go_wp2_with ((with_reducible refine wpList_at ⟨some 30, _, _, _, _, _⟩ ?_); refine wpList_valueG rfl _ (by exact exec_loadH _ _ rfl (w.heap.size) rfl h H16.out rh_3) ?_)
  refine ((HDA _ kh_3 lr_3 fr_3).out).mono ?_
  rintro e w4 ⟨hx, Ax, nx, cx, rfl, kx, sx, rdx, lnx, h4⟩
  have B4 := B3.trans (h4.mono B3.size)
  have kh_4 := kh_3.on h4
  have lr_4 := lr_3.on h4
  have fr_4 := fr_3.on h4
  have rh_4 := rh_3.on h4
  clear kh_3 lr_3 fr_3 rh_3
  have HSx := Lib.hid sx
  have H16x := Lib.hid kx.h16
  have HLNx := Lib.hid lnx
  clear sx lnx
  go_wp2_with (first
    | (with_reducible refine wpList_alloc_row (o := ⟨some 8, _, _, _, _, _⟩) rfl _ rfl zeroH zero_hw ?_; intro w5 r5 s5 g5)
    | ((with_reducible refine wpList_at ⟨none, .store _ (.tmp 8) _, _, _, _, _⟩ ?_); refine wpList_store_all rfl _ _ _ rfl w4.heap.size rfl _ _ r5 (hx.cs) rfl (hx.cs_one) (hw_zl H16x.out) (hw_size H16x.out) ?_; intro w6 rx_6 g6; have k6 : Below w4.heap.size w4 w6 := below_kept (grown_below g5 (Nat.le_refl _) (by simp)) g6 (Nat.le_of_lt s5) (by rintro q hq; cases hq; exact Nat.le_refl _); have B6 := B4.trans (k6.mono B4.size); have kh_6 := kh_4.on k6; have lr_6 := lr_4.on k6; have fr_6 := fr_4.on k6; have rh_6 := rh_4.on k6; have kx_6 := kx.on k6; have rdx_6 := rdx.on k6; clear kh_4 lr_4 fr_4 rh_4; clear r5 g5 g6; have s6 := rx_6.lt)
    | ((with_reducible refine wpList_at ⟨some 38, _, _, _, _, _⟩ ?_); refine wpList_valueG rfl _ (by exact exec_loadH _ _ rfl (w.heap.size) rfl h H16.out rh_6) ?_))
  refine ((HRA _ kh_6 lr_6 fr_6).out).mono ?_
  rintro e w7 ⟨hy, Ay, ny, cy, rfl, ky, sy, rdy, lny, h7⟩
  have B7 := B6.trans (h7.mono B6.size)
  have kh_7 := kh_6.on h7
  have lr_7 := lr_6.on h7
  have fr_7 := fr_6.on h7
  have rh_7 := rh_6.on h7
  have kx_7 := kx_6.on h7
  have rdx_7 := rdx_6.on h7
  have rx_7 := rx_6.on h7
  clear kh_6 lr_6 fr_6 rh_6 kx_6 rdx_6 rx_6
  have HSy := Lib.hid sy
  have H16y := Lib.hid ky.h16
  have HLNy := Lib.hid lny
  clear sy lny
  have HXY : Hid (dvSame hx.s hy.s = true) := Lib.hid (by rw [HSx.out, HSy.out]; exact dvSame_refl)
  have HXS : Hid (dvSm hx.s) := Lib.hid (by rw [HSx.out]; exact HLR.out.2)
  have QXY := fun W h1 h2 => Lib.hid (rsame_any9 hx hy W h1 h2 HXS.out)
  rw [HXY.out] at QXY
  have QRS := fun W h1 h2 => Lib.hid (results_any9 Ax Ay nx cx ny cy RS' W h1 h2 (by rw [HLNx.out]; exact HLR.out.1))
  have hee : (E == E) = true := by simp
  go_wp2_with (first
    | (with_reducible refine wpList_alloc_row (o := ⟨some 11, _, _, _, _, _⟩) rfl _ rfl zeroH zero_hw ?_; intro w8 r8 s8 g8)
    | ((with_reducible refine wpList_at ⟨none, .store _ (.tmp 11) _, _, _, _, _⟩ ?_); refine wpList_store_all rfl _ _ _ rfl w7.heap.size rfl _ _ r8 (hy.cs) rfl (hy.cs_one) (hw_zl H16y.out) (hw_size H16y.out) ?_; intro w9 ry_9 g9; have k9 : Below w7.heap.size w7 w9 := below_kept (grown_below g8 (Nat.le_refl _) (by simp)) g9 (Nat.le_of_lt s8) (by rintro q hq; cases hq; exact Nat.le_refl _); have B9 := B7.trans (k9.mono B7.size); have kh_9 := kh_7.on k9; have lr_9 := lr_7.on k9; have fr_9 := fr_7.on k9; have rh_9 := rh_7.on k9; have kx_9 := kx_7.on k9; have rdx_9 := rdx_7.on k9; have rx_9 := rx_7.on k9; have ky_9 := ky.on k9; have rdy_9 := rdy.on k9; clear kh_7 lr_7 fr_7 rh_7 kx_7 rdx_7 rx_7; clear r8 g8 g9; have s9 := ry_9.lt)
    | ((with_reducible refine wpList_at ⟨some 47, _, _, _, _, _⟩ ?_); refine wpList_valueG rfl _ (by exact exec_loadH _ _ rfl (w4.heap.size) rfl hx H16x.out rx_9) ?_)
    | ((with_reducible refine wpList_at ⟨some 48, _, _, _, _, _⟩ ?_); refine wpList_valueG rfl _ (by exact exec_loadH _ _ rfl (w7.heap.size) rfl hy H16y.out ry_9) ?_))
  refine ((QXY _ kx_9 ky_9).out).mono ?_
  rintro e w10 ⟨rfl, h10⟩
  have B10 := B9.trans (h10.mono B9.size)
  have kh_10 := kh_9.on h10
  have lr_10 := lr_9.on h10
  have fr_10 := fr_9.on h10
  have rh_10 := rh_9.on h10
  have kx_10 := kx_9.on h10
  have rdx_10 := rdx_9.on h10
  have rx_10 := rx_9.on h10
  have ky_10 := ky_9.on h10
  have rdy_10 := rdy_9.on h10
  have ry_10 := ry_9.on h10
  clear kh_9 lr_9 fr_9 rh_9 kx_9 rdx_9 rx_9 ky_9 rdy_9 ry_9
  go_wp2_with fail
  refine ((QRS _ rdx_10 rdy_10).out).mono ?_
  rintro e w11 ⟨rfl, h11⟩
  have B11 := B10.trans (h11.mono B10.size)
  have kh_11 := kh_10.on h11
  have lr_11 := lr_10.on h11
  have fr_11 := fr_10.on h11
  have rh_11 := rh_10.on h11
  have kx_11 := kx_10.on h11
  have rdx_11 := rdx_10.on h11
  have rx_11 := rx_10.on h11
  have ky_11 := ky_10.on h11
  have rdy_11 := rdy_10.on h11
  have ry_11 := ry_10.on h11
  clear kh_10 lr_10 fr_10 rh_10 kx_10 rdx_10 rx_10 ky_10 rdy_10 ry_10
  go_wp2_with fail
  go_ret
  exact ⟨rfl, B11⟩
end Go.Proofs.Ytkepmhkakkkliaa
