/-
  What device.New and the reference's New return: contracts by walks. Condition: bounded lengths.
-/
import Derived.Test.YtkepmhkakkkliaaDvO
import Derived.Test.YtkepmhkakkkliaaFlRN
import Derived.Test.YtkepmhkakkkliaaFuRN
namespace Go.Proofs.Ytkepmhkakkkliaa
open Go.RowKit

theorem build_hw (fA : Option Addr) (fn fc : Nat) (lA : Option Addr) (ln lc : Nat) : ∀ t : List UInt8, t.length = 16 → Try.prog.built 31 [(0, fuv fA fn fc), (1, flv lA ln lc), (2, .agg (bvs t).toArray)] = some (⟨fA, fn, fc, [], lA, ln, lc, [], t⟩ : Hw).cs.toArray
  | [a, b, c, d, e, f, g, h, i, j, k, l, m, o, p, q], _ => by kernel_rfl
theorem exec_build_hw {ρ : Operand → Value} {o : Oper} (w : World) (x y z : Operand) (ho : o.op = .build 31 #[(0, x), (1, y), (2, z)]) (h : Hw) (h16 : h.rt.length = 16) (h1 : ρ x = fuv h.A h.n h.c) (h2 : ρ y = flv h.B h.m h.d) (h3 : ρ z = .agg (bvs h.rt).toArray) :
    (execOp ρ o).run Try.prog w = .ok (.value h.v) w := by
  have h := run_build (P := Try.prog) w 31 #[(0, fuv h.A h.n h.c), (1, flv h.B h.m h.d), (2, .agg (bvs h.rt).toArray)] _ (build_hw h.A h.n h.c h.B h.m h.d h.rt h16)
  unfold execOp
  simp [ho, h1, h2, h3, h]
  rfl
theorem exec_build_hw0 {ρ : Operand → Value} {o : Oper} (w : World) (ho : o.op = .build 31 #[]) : (execOp ρ o).run Try.prog w = .ok (.value hw0.v) w := by
  have h := run_build (P := Try.prog) w 31 #[] zeroH.toArray (by kernel_rfl)
  unfold execOp
  simp [ho, h]
  rfl
theorem zero_b16 : (Try.prog.info? 29).map (fun i => i.zero.map (·.cells)) = some (some zeros16.toArray) := by kernel_rfl
set_option maxRecDepth 100000 in
set_option maxHeartbeats 4000000 in
theorem dnew_any9 (rt : List UInt8) (h16 : rt.length = 16) (A : Option Addr) (n c : Nat) (bits : List Int) (w : World) (hr : Reads w w.heap.size 1 A n (ivz bits)) (hn : n ≤ 9223372036854775806) :
    Calls Try.prog 12 #[.agg (bvs rt).toArray, .slice A n c] w (GivesE (fun _ => False) (dvNew rt bits) (fuNewE bits) w) := by
  have H16 := Lib.hid h16
  have HF := fun W h1 => Lib.hid (fnew_in A n c bits W h1 hn)
  have HL := fun W => Lib.hid (lnew_in 128 W)
  rw [show flNewE 128 = 0 from rfl] at HL
  clear h16
  cases hb : fuNewBad bits with
  | true =>
    have HE : Hid (fuNewE bits = 1) := Lib.hid (by unfold fuNewE; rw [hb]; rfl)
    have HS : Hid (dvNew rt bits = hw0.s) := Lib.hid (by unfold dvNew; rw [hb]; rfl)
    rw [show fuNewE bits = 1 from HE.out] at HF
    clear HL hb
    go_enter Try.func12, Try.ntmps12
    go_wp2_with (first
      | ((with_reducible refine wpList_at ⟨some 2, _, _, _, _, _⟩ ?_); refine wpList_box_row rfl _ _ rfl (bvs rt) rfl ?_; intro w1 rt_1 s1 g1; have k1 : Below w.heap.size w w1 := grown_below g1 (Nat.le_refl _) (by simp); have B1 : Below w.heap.size w w1 := k1; have fr_1 := hr.on k1)
      | (with_reducible refine wpList_alloc_row (o := ⟨some 4, _, _, _, _, _⟩) rfl _ rfl zeroH zero_hw ?_; intro w2 z4_2 s2 g2; have k2 : Below w1.heap.size w1 w2 := grown_below g2 (Nat.le_refl _) (by simp); have B2 := B1.trans (k2.mono B1.size); have fr_2 := fr_1.on k2; have rt_2 := rt_1.on k2; clear fr_1 rt_1))
    refine ((HF _ fr_2).out).mono ?_
    rintro e w3 ⟨Af, nf, cf, pf, rfl, fok3, fin3, hbk3, h3⟩
    have B3 := B2.trans (h3.mono B2.size)
    have fr_3 := fr_2.on h3
    have rt_3 := rt_2.on h3
    have z4_3 := z4_2.on h3
    clear fr_2 rt_2 z4_2
    unfold fuv
    have HBK := Lib.hid hbk3
    clear hbk3
    go_wp2_with (first
      | (with_reducible refine wpList_alloc_row (o := ⟨some 6, _, _, _, _, _⟩) rfl _ rfl [.slice none 0 0] (by kernel_rfl) ?_; intro w4 r4 s4 g4)
      | ((with_reducible refine wpList_at ⟨none, .store _ (.tmp 6) _, _, _, _, _⟩ ?_); refine wpList_store_all rfl _ _ _ rfl w3.heap.size rfl _ _ r4 [.slice Af nf cf] rfl (slice_one _ _ _) rfl (by kernel_rfl) ?_; intro w5 rf_5 g5; have k5 : Below w3.heap.size w3 w5 := below_kept (grown_below g4 (Nat.le_refl _) (by simp)) g5 (Nat.le_of_lt s4) (by rintro q hq; cases hq; exact Nat.le_refl _); have B5 := B3.trans (k5.mono B3.size); have fr_5 := fr_3.on k5; have rt_5 := rt_3.on k5; have z4_5 := z4_3.on k5; have fok_5 := fok3.on k5; clear fr_3 rt_3 z4_3; clear r4 g4 g5)
      | ((with_reducible refine wpList_at ⟨some 17, _, _, _, _, _⟩ ?_); refine wpList_valueG rfl _ (by exact exec_build_hw0 _ rfl) ?_)
      | ((with_reducible refine wpList_at ⟨none, .store _ (.tmp 4) _, _, _, _, _⟩ ?_); refine wpList_store_all rfl _ _ _ rfl (w1.heap.size) rfl _ _ z4_5 (hw0).cs rfl (Hw.cs_one _) (hw_zl rfl) (hw_size rfl) ?_; intro wy ry gy))
    have l4 := z4_5.lt
    have lz := B5.size
    refine bodyPost_ret (results_cellE Try.results12 _ _ _ _ rfl (load_hw ry rfl)) rfl ⟨hw0, by rw [HE.out]; rfl, hw0_ok _, hw0_in _, by rw [HS.out], below_kept B5 gy B5.size (by rintro q hq; cases hq; omega)⟩
  | false =>
    have HE : Hid (fuNewE bits = 0) := Lib.hid (by unfold fuNewE; rw [hb]; rfl)
    have HS : Hid (dvNew rt bits = ⟨fuNew bits, flNew 128, rt⟩) := Lib.hid (by unfold dvNew; rw [hb]; rfl)
    rw [show fuNewE bits = 0 from HE.out] at HF
    clear hb
    go_enter Try.func12, Try.ntmps12
    go_wp2_with (first
      | ((with_reducible refine wpList_at ⟨some 2, _, _, _, _, _⟩ ?_); refine wpList_box_row rfl _ _ rfl (bvs rt) rfl ?_; intro w1 rt_1 s1 g1; have k1 : Below w.heap.size w w1 := grown_below g1 (Nat.le_refl _) (by simp); have B1 : Below w.heap.size w w1 := k1; have fr_1 := hr.on k1)
      | (with_reducible refine wpList_alloc_row (o := ⟨some 4, _, _, _, _, _⟩) rfl _ rfl zeroH zero_hw ?_; intro w2 z4_2 s2 g2; have k2 : Below w1.heap.size w1 w2 := grown_below g2 (Nat.le_refl _) (by simp); have B2 := B1.trans (k2.mono B1.size); have fr_2 := fr_1.on k2; have rt_2 := rt_1.on k2; clear fr_1 rt_1))
    refine ((HF _ fr_2).out).mono ?_
    rintro e w3 ⟨Af, nf, cf, pf, rfl, fok3, fin3, hbk3, h3⟩
    have B3 := B2.trans (h3.mono B2.size)
    have fr_3 := fr_2.on h3
    have rt_3 := rt_2.on h3
    have z4_3 := z4_2.on h3
    clear fr_2 rt_2 z4_2
    unfold fuv
    have HBK := Lib.hid hbk3
    clear hbk3
    go_wp2_with (first
      | (with_reducible refine wpList_alloc_row (o := ⟨some 6, _, _, _, _, _⟩) rfl _ rfl [.slice none 0 0] (by kernel_rfl) ?_; intro w4 r4 s4 g4)
      | ((with_reducible refine wpList_at ⟨none, .store _ (.tmp 6) _, _, _, _, _⟩ ?_); refine wpList_store_all rfl _ _ _ rfl w3.heap.size rfl _ _ r4 [.slice Af nf cf] rfl (slice_one _ _ _) rfl (by kernel_rfl) ?_; intro w5 rf_5 g5; have k5 : Below w3.heap.size w3 w5 := below_kept (grown_below g4 (Nat.le_refl _) (by simp)) g5 (Nat.le_of_lt s4) (by rintro q hq; cases hq; exact Nat.le_refl _); have B5 := B3.trans (k5.mono B3.size); have fr_5 := fr_3.on k5; have rt_5 := rt_3.on k5; have z4_5 := z4_3.on k5; have fok_5 := fok3.on k5; clear fr_3 rt_3 z4_3; clear r4 g4 g5))
    refine ((HL _).out).mono ?_
    rintro e w6 ⟨Al, nl, cl, rfl, lok6, lin6, h6⟩
    have B6 := B5.trans (h6.mono B5.size)
    have fr_6 := fr_5.on h6
    have rt_6 := rt_5.on h6
    have z4_6 := z4_5.on h6
    have fok_6 := fok_5.on h6
    have rf_6 := rf_5.on h6
    clear fr_5 rt_5 z4_5 fok_5 rf_5
    unfold flv
    go_wp2_with (first
      | (with_reducible refine wpList_alloc_row (o := ⟨some 8, _, _, _, _, _⟩) rfl _ rfl [.slice none 0 0] (by kernel_rfl) ?_; intro w7 r7 s7 g7)
      | ((with_reducible refine wpList_at ⟨none, .store _ (.tmp 8) _, _, _, _, _⟩ ?_); refine wpList_store_all rfl _ _ _ rfl w6.heap.size rfl _ _ r7 [.slice Al nl cl] rfl (slice_one _ _ _) rfl (by kernel_rfl) ?_; intro w8 rl_8 g8; have k8 : Below w6.heap.size w6 w8 := below_kept (grown_below g7 (Nat.le_refl _) (by simp)) g8 (Nat.le_of_lt s7) (by rintro q hq; cases hq; exact Nat.le_refl _); have B8 := B6.trans (k8.mono B6.size); have fr_8 := fr_6.on k8; have rt_8 := rt_6.on k8; have z4_8 := z4_6.on k8; have fok_8 := fok_6.on k8; have rf_8 := rf_6.on k8; have lok_8 := lok6.on k8; clear fr_6 rt_6 z4_6 fok_6 rf_6; clear r7 g7 g8)
      | ((with_reducible refine wpList_at ⟨some 23, _, _, _, _, _⟩ ?_); refine wpList_valueG rfl _ (by exact exec_load _ 24 _ rfl ⟨w3.heap.size, 0, none⟩ rfl [.slice Af nf cf] rf_8.cells _ Try.underlying24 rfl (by kernel_rfl)) ?_)
      | ((with_reducible refine wpList_at ⟨some 24, _, _, _, _, _⟩ ?_); refine wpList_valueG rfl _ (by exact exec_load _ 27 _ rfl ⟨w6.heap.size, 0, none⟩ rfl [.slice Al nl cl] rl_8.cells _ Try.underlying27 rfl (by kernel_rfl)) ?_)
      | ((with_reducible refine wpList_at ⟨some 25, _, _, _, _, _⟩ ?_); refine wpList_valueG rfl _ (by exact exec_load16 _ _ rfl ⟨w.heap.size, 0, none⟩ rfl rt H16.out rt_8.cells) ?_)
      | ((with_reducible refine wpList_at ⟨some 26, _, _, _, _, _⟩ ?_); refine wpList_valueG rfl _ (by exact exec_build_hw _ _ _ _ rfl (⟨Af, nf, cf, pf, Al, nl, cl, flNew 128, rt⟩ : Hw) H16.out rfl rfl rfl) ?_)
      | ((with_reducible refine wpList_at ⟨none, .store _ (.tmp 4) _, _, _, _, _⟩ ?_); refine wpList_store_all rfl _ _ _ rfl (w1.heap.size) rfl _ _ z4_8 ((⟨Af, nf, cf, pf, Al, nl, cl, flNew 128, rt⟩ : Hw)).cs rfl (Hw.cs_one _) (hw_zl H16.out) (hw_size H16.out) ?_; intro wy ry gy))
    have l4 := z4_8.lt
    have lz := B8.size
    have hk : HwOK w8 (⟨Af, nf, cf, pf, Al, nl, cl, flNew 128, rt⟩ : Hw) := ⟨fok_8, lok_8, H16.out⟩
    have hi : HwIn (fun q => w2.heap.size ≤ q) (⟨Af, nf, cf, pf, Al, nl, cl, flNew 128, rt⟩ : Hw) := ⟨fin3.weak (fun q hq => by rcases hq with h | h; exact h.elim; exact h), lin6.weak (fun q hq => by rcases hq with h | h; exact h.elim; exact Nat.le_trans (Nat.le_trans h3.size k5.size) h)⟩
    have hky := hk.apart hi gy (by omega)
    refine bodyPost_ret (results_cellE Try.results12 _ _ _ _ rfl (load_hw ry H16.out)) rfl ⟨(⟨Af, nf, cf, pf, Al, nl, cl, flNew 128, rt⟩ : Hw), by rw [HE.out]; rfl, hky, hi.weak (fun q hq => .inr (by omega)), by rw [HS.out]; show DvS.mk _ _ _ = _; rw [HBK.out], below_kept B8 gy B8.size (by rintro q hq; cases hq; omega)⟩

set_option maxRecDepth 100000 in
set_option maxHeartbeats 4000000 in
theorem rnew_any9 (rt : List UInt8) (h16 : rt.length = 16) (A : Option Addr) (n c : Nat) (bits : List Int) (w : World) (hr : Reads w w.heap.size 1 A n (ivz bits)) (hn : n ≤ 9223372036854775806) :
    Calls Try.prog 13 #[.agg (bvs rt).toArray, .slice A n c] w (GivesE (fun _ => False) (dvNew rt bits) (fuNewE bits) w) := by
  have H16 := Lib.hid h16
  have HF := fun W h1 => Lib.hid (rnew_in A n c bits W h1 hn)
  have HL := fun W => Lib.hid (rnew8_in 128 W)
  rw [show flNewE 128 = 0 from rfl] at HL
  clear h16
  cases hb : fuNewBad bits with
  | true =>
    have HE : Hid (fuNewE bits = 1) := Lib.hid (by unfold fuNewE; rw [hb]; rfl)
    have HS : Hid (dvNew rt bits = hw0.s) := Lib.hid (by unfold dvNew; rw [hb]; rfl)
    rw [show fuNewE bits = 1 from HE.out] at HF
    clear HL hb
    go_enter Try.func13, Try.ntmps13
    go_wp2_with (first
      | ((with_reducible refine wpList_at ⟨some 2, _, _, _, _, _⟩ ?_); refine wpList_box_row rfl _ _ rfl (bvs rt) rfl ?_; intro w1 rt_1 s1 g1; have k1 : Below w.heap.size w w1 := grown_below g1 (Nat.le_refl _) (by simp); have B1 : Below w.heap.size w w1 := k1; have fr_1 := hr.on k1)
      | (with_reducible refine wpList_alloc_row (o := ⟨some 4, _, _, _, _, _⟩) rfl _ rfl zeroH zero_hw ?_; intro w2 z4_2 s2 g2; have k2 : Below w1.heap.size w1 w2 := grown_below g2 (Nat.le_refl _) (by simp); have B2 := B1.trans (k2.mono B1.size); have fr_2 := fr_1.on k2; have rt_2 := rt_1.on k2; clear fr_1 rt_1))
    refine ((HF _ fr_2).out).mono ?_
    rintro e w3 ⟨Af, nf, cf, pf, rfl, fok3, fin3, hbk3, h3⟩
    have B3 := B2.trans (h3.mono B2.size)
    have fr_3 := fr_2.on h3
    have rt_3 := rt_2.on h3
    have z4_3 := z4_2.on h3
    clear fr_2 rt_2 z4_2
    unfold fuv
    have HBK := Lib.hid hbk3
    clear hbk3
    go_wp2_with (first
      | (with_reducible refine wpList_alloc_row (o := ⟨some 6, _, _, _, _, _⟩) rfl _ rfl [.slice none 0 0] (by kernel_rfl) ?_; intro w4 r4 s4 g4)
      | ((with_reducible refine wpList_at ⟨none, .store _ (.tmp 6) _, _, _, _, _⟩ ?_); refine wpList_store_all rfl _ _ _ rfl w3.heap.size rfl _ _ r4 [.slice Af nf cf] rfl (slice_one _ _ _) rfl (by kernel_rfl) ?_; intro w5 rf_5 g5; have k5 : Below w3.heap.size w3 w5 := below_kept (grown_below g4 (Nat.le_refl _) (by simp)) g5 (Nat.le_of_lt s4) (by rintro q hq; cases hq; exact Nat.le_refl _); have B5 := B3.trans (k5.mono B3.size); have fr_5 := fr_3.on k5; have rt_5 := rt_3.on k5; have z4_5 := z4_3.on k5; have fok_5 := fok3.on k5; clear fr_3 rt_3 z4_3; clear r4 g4 g5)
      | ((with_reducible refine wpList_at ⟨some 17, _, _, _, _, _⟩ ?_); refine wpList_valueG rfl _ (by exact exec_build_hw0 _ rfl) ?_)
      | ((with_reducible refine wpList_at ⟨none, .store _ (.tmp 4) _, _, _, _, _⟩ ?_); refine wpList_store_all rfl _ _ _ rfl (w1.heap.size) rfl _ _ z4_5 (hw0).cs rfl (Hw.cs_one _) (hw_zl rfl) (hw_size rfl) ?_; intro wy ry gy))
    have l4 := z4_5.lt
    have lz := B5.size
    refine bodyPost_ret (results_cellE Try.results13 _ _ _ _ rfl (load_hw ry rfl)) rfl ⟨hw0, by rw [HE.out]; rfl, hw0_ok _, hw0_in _, by rw [HS.out], below_kept B5 gy B5.size (by rintro q hq; cases hq; omega)⟩
  | false =>
    have HE : Hid (fuNewE bits = 0) := Lib.hid (by unfold fuNewE; rw [hb]; rfl)
    have HS : Hid (dvNew rt bits = ⟨fuNew bits, flNew 128, rt⟩) := Lib.hid (by unfold dvNew; rw [hb]; rfl)
    rw [show fuNewE bits = 0 from HE.out] at HF
    clear hb
    go_enter Try.func13, Try.ntmps13
    go_wp2_with (first
      | ((with_reducible refine wpList_at ⟨some 2, _, _, _, _, _⟩ ?_); refine wpList_box_row rfl _ _ rfl (bvs rt) rfl ?_; intro w1 rt_1 s1 g1; have k1 : Below w.heap.size w w1 := grown_below g1 (Nat.le_refl _) (by simp); have B1 : Below w.heap.size w w1 := k1; have fr_1 := hr.on k1)
      | (with_reducible refine wpList_alloc_row (o := ⟨some 4, _, _, _, _, _⟩) rfl _ rfl zeroH zero_hw ?_; intro w2 z4_2 s2 g2; have k2 : Below w1.heap.size w1 w2 := grown_below g2 (Nat.le_refl _) (by simp); have B2 := B1.trans (k2.mono B1.size); have fr_2 := fr_1.on k2; have rt_2 := rt_1.on k2; clear fr_1 rt_1))
    refine ((HF _ fr_2).out).mono ?_
    rintro e w3 ⟨Af, nf, cf, pf, rfl, fok3, fin3, hbk3, h3⟩
    have B3 := B2.trans (h3.mono B2.size)
    have fr_3 := fr_2.on h3
    have rt_3 := rt_2.on h3
    have z4_3 := z4_2.on h3
    clear fr_2 rt_2 z4_2
    unfold fuv
    have HBK := Lib.hid hbk3
    clear hbk3
    go_wp2_with (first
      | (with_reducible refine wpList_alloc_row (o := ⟨some 6, _, _, _, _, _⟩) rfl _ rfl [.slice none 0 0] (by kernel_rfl) ?_; intro w4 r4 s4 g4)
      | ((with_reducible refine wpList_at ⟨none, .store _ (.tmp 6) _, _, _, _, _⟩ ?_); refine wpList_store_all rfl _ _ _ rfl w3.heap.size rfl _ _ r4 [.slice Af nf cf] rfl (slice_one _ _ _) rfl (by kernel_rfl) ?_; intro w5 rf_5 g5; have k5 : Below w3.heap.size w3 w5 := below_kept (grown_below g4 (Nat.le_refl _) (by simp)) g5 (Nat.le_of_lt s4) (by rintro q hq; cases hq; exact Nat.le_refl _); have B5 := B3.trans (k5.mono B3.size); have fr_5 := fr_3.on k5; have rt_5 := rt_3.on k5; have z4_5 := z4_3.on k5; have fok_5 := fok3.on k5; clear fr_3 rt_3 z4_3; clear r4 g4 g5))
    refine ((HL _).out).mono ?_
    rintro e w6 ⟨Al, nl, cl, rfl, lok6, lin6, h6⟩
    have B6 := B5.trans (h6.mono B5.size)
    have fr_6 := fr_5.on h6
    have rt_6 := rt_5.on h6
    have z4_6 := z4_5.on h6
    have fok_6 := fok_5.on h6
    have rf_6 := rf_5.on h6
    clear fr_5 rt_5 z4_5 fok_5 rf_5
    unfold flv
    go_wp2_with (first
      | (with_reducible refine wpList_alloc_row (o := ⟨some 8, _, _, _, _, _⟩) rfl _ rfl [.slice none 0 0] (by kernel_rfl) ?_; intro w7 r7 s7 g7)
      | ((with_reducible refine wpList_at ⟨none, .store _ (.tmp 8) _, _, _, _, _⟩ ?_); refine wpList_store_all rfl _ _ _ rfl w6.heap.size rfl _ _ r7 [.slice Al nl cl] rfl (slice_one _ _ _) rfl (by kernel_rfl) ?_; intro w8 rl_8 g8; have k8 : Below w6.heap.size w6 w8 := below_kept (grown_below g7 (Nat.le_refl _) (by simp)) g8 (Nat.le_of_lt s7) (by rintro q hq; cases hq; exact Nat.le_refl _); have B8 := B6.trans (k8.mono B6.size); have fr_8 := fr_6.on k8; have rt_8 := rt_6.on k8; have z4_8 := z4_6.on k8; have fok_8 := fok_6.on k8; have rf_8 := rf_6.on k8; have lok_8 := lok6.on k8; clear fr_6 rt_6 z4_6 fok_6 rf_6; clear r7 g7 g8)
      | ((with_reducible refine wpList_at ⟨some 23, _, _, _, _, _⟩ ?_); refine wpList_valueG rfl _ (by exact exec_load _ 24 _ rfl ⟨w3.heap.size, 0, none⟩ rfl [.slice Af nf cf] rf_8.cells _ Try.underlying24 rfl (by kernel_rfl)) ?_)
      | ((with_reducible refine wpList_at ⟨some 24, _, _, _, _, _⟩ ?_); refine wpList_valueG rfl _ (by exact exec_load _ 27 _ rfl ⟨w6.heap.size, 0, none⟩ rfl [.slice Al nl cl] rl_8.cells _ Try.underlying27 rfl (by kernel_rfl)) ?_)
      | ((with_reducible refine wpList_at ⟨some 25, _, _, _, _, _⟩ ?_); refine wpList_valueG rfl _ (by exact exec_load16 _ _ rfl ⟨w.heap.size, 0, none⟩ rfl rt H16.out rt_8.cells) ?_)
      | ((with_reducible refine wpList_at ⟨some 26, _, _, _, _, _⟩ ?_); refine wpList_valueG rfl _ (by exact exec_build_hw _ _ _ _ rfl (⟨Af, nf, cf, pf, Al, nl, cl, flNew 128, rt⟩ : Hw) H16.out rfl rfl rfl) ?_)
      | ((with_reducible refine wpList_at ⟨none, .store _ (.tmp 4) _, _, _, _, _⟩ ?_); refine wpList_store_all rfl _ _ _ rfl (w1.heap.size) rfl _ _ z4_8 ((⟨Af, nf, cf, pf, Al, nl, cl, flNew 128, rt⟩ : Hw)).cs rfl (Hw.cs_one _) (hw_zl H16.out) (hw_size H16.out) ?_; intro wy ry gy))
    have l4 := z4_8.lt
    have lz := B8.size
    have hk : HwOK w8 (⟨Af, nf, cf, pf, Al, nl, cl, flNew 128, rt⟩ : Hw) := ⟨fok_8, lok_8, H16.out⟩
    have hi : HwIn (fun q => w2.heap.size ≤ q) (⟨Af, nf, cf, pf, Al, nl, cl, flNew 128, rt⟩ : Hw) := ⟨fin3.weak (fun q hq => by rcases hq with h | h; exact h.elim; exact h), lin6.weak (fun q hq => by rcases hq with h | h; exact h.elim; exact Nat.le_trans (Nat.le_trans h3.size k5.size) h)⟩
    have hky := hk.apart hi gy (by omega)
    refine bodyPost_ret (results_cellE Try.results13 _ _ _ _ rfl (load_hw ry H16.out)) rfl ⟨(⟨Af, nf, cf, pf, Al, nl, cl, flNew 128, rt⟩ : Hw), by rw [HE.out]; rfl, hky, hi.weak (fun q hq => .inr (by omega)), by rw [HS.out]; show DvS.mk _ _ _ = _; rw [HBK.out], below_kept B8 gy B8.size (by rintro q hq; cases hq; omega)⟩

end Go.Proofs.Ytkepmhkakkkliaa
