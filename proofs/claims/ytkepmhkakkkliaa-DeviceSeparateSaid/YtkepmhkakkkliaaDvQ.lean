/-
  What device.step returns: a contract by a walk. Condition: bounded lengths.
-/
import Derived.Test.YtkepmhkakkkliaaDvP
namespace Go.Proofs.Ytkepmhkakkkliaa
open Go.RowKit

/-- The function of an access, and what it returns. -/
theorem acc_of (h : Hw) (a : DvA) (f : DvF) (hb : dvBad a = false) (hs : dvSm h.s) : ∃ (K : Nat) (F : FuncId) (r : DvR), a.k = (K : Int) ∧ K < 5 ∧ accT[K]? = some (accF F) ∧ (f.cut = false → r = dvRs h.s a f) ∧ (∀ args W, (callFunc F args).run Try.prog W = .ok (.enter F args) W) ∧
    ∀ (X : Nat → Prop) (W : World), HwIn X h → HwOK W h → Calls Try.prog F #[h.v, a.v, f.v] W (GivesD X (dvSt h.s a f) r (dvErr h.s a) W) := by
  rcases dvBad_no hb with hk | hk | hk | hk
  · refine ⟨1, _, ⟨fuRead h.s.bs a.b a.c f.noise, noB⟩, hk, by decide, rfl, fun hf => (dvRs_fuse hb hk hf).symm, fun _ _ => rfl, fun X W hX hW => ?_⟩
    rw [dvSt_keep (.inl hk), dvErr_fuse hb (.inl hk)]
    exact readCell_any X h a f W hX hW
  · refine ⟨2, _, noR, hk, by decide, rfl, fun _ => (dvRs_none (.inl hk)).symm, fun _ _ => rfl, fun X W hX hW => ?_⟩
    rw [dvSt_pulse hb hk, dvErr_fuse hb (.inr hk)]
    exact pulseCell_any X h a f W hX hW hs
  · refine ⟨3, _, ⟨0, flRead h.s.fs a.c⟩, hk, by decide, rfl, fun hf => (dvRs_read hb hk hf).symm, fun _ _ => rfl, fun X W hX hW => ?_⟩
    rw [dvSt_keep (.inr hk), dvErr_read hb hk]
    exact readSector_any X h a f W hX hW
  · refine ⟨4, _, noR, hk, by decide, rfl, fun _ => (dvRs_none (.inr hk)).symm, fun _ _ => rfl, fun X W hX hW => ?_⟩
    rw [dvSt_write hb hk, dvErr_write hb hk]
    exact writeSector_any X h a f W hX hW hs
set_option maxRecDepth 100000 in
set_option maxHeartbeats 4000000 in
theorem step_any9 (X : Nat → Prop) (h : Hw) (a : DvA) (f : DvF) (w : World) (hX : HwIn X h) (hok : HwOK w h) (hs : dvSm h.s) :
    Calls Try.prog 22 #[h.v, a.v, f.v] w (GivesD X (dvSt h.s a f) (dvRs h.s a f) (dvErr h.s a) w) := by
  have H16 := Lib.hid hok.h16
  have HXI := Lib.hid hX
  have HI0 := Lib.hid hok.in_
  have HXA := Lib.hid (hok.in_.and hX)
  clear hX
  have HB := fun W => Lib.hid (malformed_any9 a W)
  cases hb : dvBad a with
  | true =>
    rw [hb] at HB
    rw [dvErr_bad hb, dvSt_bad hb, dvRs_bad hb]
    obtain ⟨k, b, c, s⟩ := a
    obtain ⟨cut, n, nz⟩ := f
    clear hb hs
    go_enter Try.func22, Try.ntmps22
    go_wp2_with (first
      | ((with_reducible refine wpList_at ⟨some 3, _, _, _, _, _⟩ ?_); refine wpList_box_row rfl _ _ rfl (h.cs) rfl ?_; intro w1 rh_1 s1 g1; have k1 : Below w.heap.size w w1 := grown_below g1 (Nat.le_refl _) (by simp); have B1 : Below w.heap.size w w1 := k1; have okh_1 := hok.on k1)
      | ((with_reducible refine wpList_at ⟨some 4, _, _, _, _, _⟩ ?_); refine wpList_box_row rfl _ _ rfl ((⟨k, b, c, s⟩ : DvA).cs) rfl ?_; intro w2 ra_2 s2 g2; have k2 : Below w1.heap.size w1 w2 := grown_below g2 (Nat.le_refl _) (by simp); have B2 := B1.trans (k2.mono B1.size); have okh_2 := okh_1.on k2; have rh_2 := rh_1.on k2; clear okh_1 rh_1; have cra0 := ra_2.cell (j := 0) rfl; have cra1 := ra_2.cell (j := 1) rfl; have cra2 := ra_2.cell (j := 2) rfl; have cra3 := ra_2.cell (j := 3) rfl)
      | ((with_reducible refine wpList_at ⟨some 5, _, _, _, _, _⟩ ?_); refine wpList_box_row rfl _ _ rfl ((⟨cut, n, nz⟩ : DvF).cs) rfl ?_; intro w3 rf_3 s3 g3; have k3 : Below w2.heap.size w2 w3 := grown_below g3 (Nat.le_refl _) (by simp); have B3 := B2.trans (k3.mono B2.size); have okh_3 := okh_2.on k3; have rh_3 := rh_2.on k3; have ra_3 := ra_2.on k3; clear okh_2 rh_2 ra_2; have cra0 := ra_3.cell (j := 0) rfl; have cra1 := ra_3.cell (j := 1) rfl; have cra2 := ra_3.cell (j := 2) rfl; have cra3 := ra_3.cell (j := 3) rfl; have crf0 := rf_3.cell (j := 0) rfl; have crf1 := rf_3.cell (j := 1) rfl; have crf2 := rf_3.cell (j := 2) rfl)
      | (with_reducible refine wpList_alloc_row (o := ⟨some 6, _, _, _, _, _⟩) rfl _ rfl zeroH zero_hw ?_; intro w4 z6_4 s4 g4; have k4 : Below w3.heap.size w3 w4 := grown_below g4 (Nat.le_refl _) (by simp); have B4 := B3.trans (k4.mono B3.size); have okh_4 := okh_3.on k4; have rh_4 := rh_3.on k4; have ra_4 := ra_3.on k4; have rf_4 := rf_3.on k4; clear okh_3 rh_3 ra_3 rf_3; have cra0 := ra_4.cell (j := 0) rfl; have cra1 := ra_4.cell (j := 1) rfl; have cra2 := ra_4.cell (j := 2) rfl; have cra3 := ra_4.cell (j := 3) rfl; have crf0 := rf_4.cell (j := 0) rfl; have crf1 := rf_4.cell (j := 1) rfl; have crf2 := rf_4.cell (j := 2) rfl)
      | (with_reducible refine wpList_alloc_row (o := ⟨some 7, _, _, _, _, _⟩) rfl _ rfl zeroR zero_rs ?_; intro w5 z7_5 s5 g5; have k5 : Below w4.heap.size w4 w5 := grown_below g5 (Nat.le_refl _) (by simp); have B5 := B4.trans (k5.mono B4.size); have okh_5 := okh_4.on k5; have rh_5 := rh_4.on k5; have ra_5 := ra_4.on k5; have rf_5 := rf_4.on k5; have z6_5 := z6_4.on k5; clear okh_4 rh_4 ra_4 rf_4 z6_4; have cra0 := ra_5.cell (j := 0) rfl; have cra1 := ra_5.cell (j := 1) rfl; have cra2 := ra_5.cell (j := 2) rfl; have cra3 := ra_5.cell (j := 3) rfl; have crf0 := rf_5.cell (j := 0) rfl; have crf1 := rf_5.cell (j := 1) rfl; have crf2 := rf_5.cell (j := 2) rfl)
      | ((with_reducible refine wpList_at ⟨some 13, _, _, _, _, _⟩ ?_); refine wpList_valueG rfl _ (by exact exec_loadA _ _ rfl (w1.heap.size) rfl (⟨k, b, c, s⟩ : DvA) ra_5) ?_))
    refine ((HB _).out).mono ?_
    rintro e w6 ⟨rfl, h6⟩
    have B6 := B5.trans (h6.mono B5.size)
    have okh_6 := okh_5.on h6
    have rh_6 := rh_5.on h6
    have ra_6 := ra_5.on h6
    have rf_6 := rf_5.on h6
    have z6_6 := z6_5.on h6
    have z7_6 := z7_5.on h6
    clear okh_5 rh_5 ra_5 rf_5 z6_5 z7_5
    have cra0 := ra_6.cell (j := 0) rfl
    have cra1 := ra_6.cell (j := 1) rfl
    have cra2 := ra_6.cell (j := 2) rfl
    have cra3 := ra_6.cell (j := 3) rfl
    have crf0 := rf_6.cell (j := 0) rfl
    have crf1 := rf_6.cell (j := 1) rfl
    have crf2 := rf_6.cell (j := 2) rfl
    go_wp2_with (first
      | ((with_reducible refine wpList_at ⟨some 15, _, _, _, _, _⟩ ?_); refine wpList_valueG rfl _ (by exact exec_loadH _ _ rfl (w.heap.size) rfl h H16.out rh_6) ?_)
      | ((with_reducible refine wpList_at ⟨none, .store _ (.tmp 6) _, _, _, _, _⟩ ?_); refine wpList_store_all rfl _ _ _ rfl (w3.heap.size) rfl _ _ z6_6 (h).cs rfl (Hw.cs_one _) (hw_zl H16.out) (hw_size H16.out) ?_; intro wx rx gx; have z7x := z7_6.kept gx (by simp; omega))
      | ((with_reducible refine wpList_at ⟨none, .store _ (.tmp 7) _, _, _, _, _⟩ ?_); refine wpList_store_all rfl _ _ _ rfl (w4.heap.size) rfl _ _ z7x (noR).cs rfl (DvR.cs_one _) rfl (by kernel_rfl) ?_; intro wy ry gy))
    have l6 := z6_6.lt
    have l7 := z7_6.lt
    have rxy := rx.kept gy (by simp; omega)
    have okx := okh_6.apart HI0.out gx (by omega)
    have oky := okx.apart HI0.out gy (by omega)
    refine bodyPost_ret (results_cells2 Try.results22 _ _ _ _ _ _ rfl rfl (load_hw rxy H16.out) (load_rs ry)) rfl ⟨h, rfl, oky, HXI.out.weak (fun _ h => .inl h), rfl, ?_⟩
    exact below_kept (below_kept B6 gx B6.size (by rintro q hq; cases hq; omega)) gy (Nat.le_trans B6.size gx.size) (by rintro q hq; cases hq; omega)
  | false =>
    rw [hb] at HB
    obtain ⟨kq, F, r, hk, hK, hA, hr, hcf, hx⟩ := acc_of h a f hb hs
    have HX := fun X W h1 h2 => Lib.hid (hx X W h1 h2)
    have HA := Lib.hid hA
    have HR := Lib.hid hr
    have HCF := Lib.hid hcf
    clear hx hA hr hb hs hcf
    obtain ⟨k, b, c, s⟩ := a
    obtain rfl : k = (kq : Int) := hk
    obtain ⟨cut, n, nz⟩ := f
    generalize dvErr h.s ⟨(kq : Int), b, c, s⟩ = E at *
    generalize dvSt h.s ⟨(kq : Int), b, c, s⟩ ⟨cut, n, nz⟩ = V at *
    go_enter Try.func22, Try.ntmps22
    go_wp2_with (first
      | ((with_reducible refine wpList_at ⟨some 3, _, _, _, _, _⟩ ?_); refine wpList_box_row rfl _ _ rfl (h.cs) rfl ?_; intro w1 rh_1 s1 g1; have k1 : Below w.heap.size w w1 := grown_below g1 (Nat.le_refl _) (by simp); have B1 : Below w.heap.size w w1 := k1; have okh_1 := hok.on k1)
      | ((with_reducible refine wpList_at ⟨some 4, _, _, _, _, _⟩ ?_); refine wpList_box_row rfl _ _ rfl ((⟨(kq : Int), b, c, s⟩ : DvA).cs) rfl ?_; intro w2 ra_2 s2 g2; have k2 : Below w1.heap.size w1 w2 := grown_below g2 (Nat.le_refl _) (by simp); have B2 := B1.trans (k2.mono B1.size); have okh_2 := okh_1.on k2; have rh_2 := rh_1.on k2; clear okh_1 rh_1; have cra0 := ra_2.cell (j := 0) rfl; have cra1 := ra_2.cell (j := 1) rfl; have cra2 := ra_2.cell (j := 2) rfl; have cra3 := ra_2.cell (j := 3) rfl)
      | ((with_reducible refine wpList_at ⟨some 5, _, _, _, _, _⟩ ?_); refine wpList_box_row rfl _ _ rfl ((⟨cut, n, nz⟩ : DvF).cs) rfl ?_; intro w3 rf_3 s3 g3; have k3 : Below w2.heap.size w2 w3 := grown_below g3 (Nat.le_refl _) (by simp); have B3 := B2.trans (k3.mono B2.size); have okh_3 := okh_2.on k3; have rh_3 := rh_2.on k3; have ra_3 := ra_2.on k3; clear okh_2 rh_2 ra_2; have cra0 := ra_3.cell (j := 0) rfl; have cra1 := ra_3.cell (j := 1) rfl; have cra2 := ra_3.cell (j := 2) rfl; have cra3 := ra_3.cell (j := 3) rfl; have crf0 := rf_3.cell (j := 0) rfl; have crf1 := rf_3.cell (j := 1) rfl; have crf2 := rf_3.cell (j := 2) rfl)
      | (with_reducible refine wpList_alloc_row (o := ⟨some 6, _, _, _, _, _⟩) rfl _ rfl zeroH zero_hw ?_; intro w4 z6_4 s4 g4; have k4 : Below w3.heap.size w3 w4 := grown_below g4 (Nat.le_refl _) (by simp); have B4 := B3.trans (k4.mono B3.size); have okh_4 := okh_3.on k4; have rh_4 := rh_3.on k4; have ra_4 := ra_3.on k4; have rf_4 := rf_3.on k4; clear okh_3 rh_3 ra_3 rf_3; have cra0 := ra_4.cell (j := 0) rfl; have cra1 := ra_4.cell (j := 1) rfl; have cra2 := ra_4.cell (j := 2) rfl; have cra3 := ra_4.cell (j := 3) rfl; have crf0 := rf_4.cell (j := 0) rfl; have crf1 := rf_4.cell (j := 1) rfl; have crf2 := rf_4.cell (j := 2) rfl)
      | (with_reducible refine wpList_alloc_row (o := ⟨some 7, _, _, _, _, _⟩) rfl _ rfl zeroR zero_rs ?_; intro w5 z7_5 s5 g5; have k5 : Below w4.heap.size w4 w5 := grown_below g5 (Nat.le_refl _) (by simp); have B5 := B4.trans (k5.mono B4.size); have okh_5 := okh_4.on k5; have rh_5 := rh_4.on k5; have ra_5 := ra_4.on k5; have rf_5 := rf_4.on k5; have z6_5 := z6_4.on k5; clear okh_4 rh_4 ra_4 rf_4 z6_4; have cra0 := ra_5.cell (j := 0) rfl; have cra1 := ra_5.cell (j := 1) rfl; have cra2 := ra_5.cell (j := 2) rfl; have cra3 := ra_5.cell (j := 3) rfl; have crf0 := rf_5.cell (j := 0) rfl; have crf1 := rf_5.cell (j := 1) rfl; have crf2 := rf_5.cell (j := 2) rfl)
      | ((with_reducible refine wpList_at ⟨some 13, _, _, _, _, _⟩ ?_); refine wpList_valueG rfl _ (by exact exec_loadA _ _ rfl (w1.heap.size) rfl (⟨(kq : Int), b, c, s⟩ : DvA) ra_5) ?_))
    refine ((HB _).out).mono ?_
    rintro e w6 ⟨rfl, h6⟩
    have B6 := B5.trans (h6.mono B5.size)
    have okh_6 := okh_5.on h6
    have rh_6 := rh_5.on h6
    have ra_6 := ra_5.on h6
    have rf_6 := rf_5.on h6
    have z6_6 := z6_5.on h6
    have z7_6 := z7_5.on h6
    clear okh_5 rh_5 ra_5 rf_5 z6_5 z7_5
    have cra0 := ra_6.cell (j := 0) rfl
    have cra1 := ra_6.cell (j := 1) rfl
    have cra2 := ra_6.cell (j := 2) rfl
    have cra3 := ra_6.cell (j := 3) rfl
    have crf0 := rf_6.cell (j := 0) rfl
    have crf1 := rf_6.cell (j := 1) rfl
    have crf2 := rf_6.cell (j := 2) rfl
    go_wp2_with fail
    refine (accesses_any9 _).mono ?_
    rintro e w7 ⟨rfl, h7⟩
    have B7 := B6.trans (h7.mono B6.size)
    have okh_7 := okh_6.on h7
    have rh_7 := rh_6.on h7
    have ra_7 := ra_6.on h7
    have rf_7 := rf_6.on h7
    have z6_7 := z6_6.on h7
    have z7_7 := z7_6.on h7
    clear okh_6 rh_6 ra_6 rf_6 z6_6 z7_6
    have cra0 := ra_7.cell (j := 0) rfl
    have cra1 := ra_7.cell (j := 1) rfl
    have cra2 := ra_7.cell (j := 2) rfl
    have cra3 := ra_7.cell (j := 3) rfl
    have crf0 := rf_7.cell (j := 0) rfl
    have crf1 := rf_7.cell (j := 1) rfl
    have crf2 := rf_7.cell (j := 2) rfl
    go_wp2_with (first
      | (with_reducible refine wpList_alloc_row (o := ⟨some 9, _, _, _, _, _⟩) rfl _ rfl zeroT5 zero_t5 ?_; intro w8 r8 s8 g8)
      | ((with_reducible refine wpList_at ⟨none, .store _ (.tmp 9) _, _, _, _, _⟩ ?_); refine wpList_store_all rfl _ _ _ rfl w7.heap.size rfl _ _ r8 accT rfl accT_one rfl (by kernel_rfl) ?_; intro w9 rt_9 g9; have k9 : Below w7.heap.size w7 w9 := below_kept (grown_below g8 (Nat.le_refl _) (by simp)) g9 (Nat.le_of_lt s8) (by rintro q hq; cases hq; exact Nat.le_refl _); have B9 := B7.trans (k9.mono B7.size); have okh_9 := okh_7.on k9; have rh_9 := rh_7.on k9; have ra_9 := ra_7.on k9; have rf_9 := rf_7.on k9; have z6_9 := z6_7.on k9; have z7_9 := z7_7.on k9; clear okh_7 rh_7 ra_7 rf_7 z6_7 z7_7; have cra0 := ra_9.cell (j := 0) rfl; have cra1 := ra_9.cell (j := 1) rfl; have cra2 := ra_9.cell (j := 2) rfl; have cra3 := ra_9.cell (j := 3) rfl; have crf0 := rf_9.cell (j := 0) rfl; have crf1 := rf_9.cell (j := 1) rfl; have crf2 := rf_9.cell (j := 2) rfl; clear r8 g8 g9))
    have lz6k := z6_9.lt
    have lz7k := z7_9.lt
    try simp only [Act.put, List.setIfInBounds_toArray, List.set_cons_zero, List.set_cons_succ]
    go_cut [10, 11, 12] (fun s1 s2 s3 wc => ∃ ga gr h2, s1 = .pointer (some ⟨ga, 0, none⟩) ∧ s2 = .pointer (some ⟨gr, 0, none⟩) ∧ s3 = .int .i64 E ∧ Row wc ga 31 h2.cs ∧ Row wc gr 40 r.cs ∧ HwOK wc h2 ∧ HwIn (fun q => (q < w.heap.size ∧ X q) ∨ (w9.heap.size ≤ q ∧ q ≠ ga ∧ q ≠ gr)) h2 ∧ h2.s = V ∧ w9.heap.size ≤ ga ∧ w9.heap.size ≤ gr ∧ ga ≠ gr ∧ Below w9.heap.size w9 wc)
    case first =>
      have b0 : Below w9.heap.size w9 w9.drew := (Below.refl _ _).drew
      have z0 : w9.drew.heap.size = w9.heap.size := rfl
      have rhd := rh_9.drew
      have lrh := rh_9.lt
      have rad := ra_9.drew
      have lra := ra_9.lt
      have rfd := rf_9.drew
      have lrf := rf_9.lt
      have rtd := rt_9.drew
      have lrt := rt_9.lt
      have okd : HwOK w9.drew h := okh_9
      refine wp_region_plan (fun w' => Row w' (w.heap.size) 31 h.cs ∧ Row w' (w1.heap.size) 33 (⟨(kq : Int), b, c, s⟩ : DvA).cs ∧ Row w' (w2.heap.size) 35 (⟨cut, n, nz⟩ : DvF).cs ∧ Row w' (w7.heap.size) 81 accT) (.take 0 <| .take 1 <| .take 2 <| .take 3 <| .take 4 <| .take 5 <| .take 6 <| .three 7 (.take 8 <| .take 9 <| .take 10 <| .take 11 <| .two 12 (.one 13 <| .one 14 <| .one 15 <| .take 16 <| .done) 13 (.one 12 <| .one 14 <| .one 15 <| .take 16 <| .done)) 12 (.two 7 (.take 8 <| .take 9 <| .take 10 <| .take 11 <| .one 13 <| .one 14 <| .one 15 <| .take 16 <| .done) 13 (.one 7 <| .take 8 <| .take 9 <| .take 10 <| .take 11 <| .one 14 <| .one 15 <| .take 16 <| .done)) 13 (.two 7 (.take 8 <| .take 9 <| .take 10 <| .take 11 <| .one 12 <| .one 14 <| .one 15 <| .take 16 <| .done) 12 (.one 7 <| .take 8 <| .take 9 <| .take 10 <| .take 11 <| .one 14 <| .one 15 <| .take 16 <| .done))) (by kernel_rfl) (by kernel_rfl) (by kernel_rfl) (fun _ _ _ _ _ h => h) ⟨rhd, rad, rfd, rtd⟩ ?_
      repeat (refine plan_take _ rfl ?_; (first | ((with_reducible refine wpQuiet_at ⟨some 20, _, _, _, _, _⟩ ?_); refine wpQuiet_valueG rfl _ (by intro _ hS; exact exec_load1 _ 3 _ rfl ⟨w1.heap.size, 0, none⟩ rfl _ (hS.2.1.cell (j := 0) rfl) _ Try.underlying3 rfl) (wpQuiet_nil ?_); simp only [Act.put, List.setIfInBounds_toArray, List.set_cons_zero, List.set_cons_succ]) | ((with_reducible refine wpQuiet_at ⟨some 22, _, _, _, _, _⟩ ?_); refine wpQuiet_valueG rfl _ (by intro _ hS; exact exec_load1 _ 80 _ rfl ⟨w7.heap.size, kq, none⟩ rfl (.func (.func F) #[] #[]) (hS.2.2.2.cell (j := kq) HA.out) _ Try.underlying80 rfl) (wpQuiet_nil ?_); simp only [Act.put, List.setIfInBounds_toArray, List.set_cons_zero, List.set_cons_succ]) | ((with_reducible refine wpQuiet_at ⟨some 23, _, _, _, _, _⟩ ?_); refine wpQuiet_valueG rfl _ (by intro _ hS; exact exec_loadH _ _ rfl (w.heap.size) rfl h H16.out hS.1) (wpQuiet_nil ?_); simp only [Act.put, List.setIfInBounds_toArray, List.set_cons_zero, List.set_cons_succ]) | ((with_reducible refine wpQuiet_at ⟨some 24, _, _, _, _, _⟩ ?_); refine wpQuiet_valueG rfl _ (by intro _ hS; exact exec_loadA _ _ rfl (w1.heap.size) rfl (⟨(kq : Int), b, c, s⟩ : DvA) hS.2.1) (wpQuiet_nil ?_); simp only [Act.put, List.setIfInBounds_toArray, List.set_cons_zero, List.set_cons_succ]) | ((with_reducible refine wpQuiet_at ⟨some 25, _, _, _, _, _⟩ ?_); refine wpQuiet_valueG rfl _ (by intro _ hS; exact exec_loadT _ _ rfl (w2.heap.size) rfl (⟨cut, n, nz⟩ : DvF) hS.2.2.1) (wpQuiet_nil ?_); simp only [Act.put, List.setIfInBounds_toArray, List.set_cons_zero, List.set_cons_succ]) | (go_big_quiet_step ((intros; rfl)); refine wpQuiet_nil ?_)))
      refine plan_three ?_ ?_ ?_
      · refine step_at _ rfl fun K hK => ?_
        go_simp
        rw [HCF.out]
        go_simp
        refine (HX _ _ HXA.out okd).out.mono ?_
        rintro e wu1 ⟨hu1, rfl, hku1, hiu1, hsu1, hbu1⟩
        have inu1 := hiu1.and hku1.in_
        have rhu1 := rhd.on hbu1
        have rau1 := rad.on hbu1
        have rfu1 := rfd.on hbu1
        have rtu1 := rtd.on hbu1
        have oku1 := okd.on hbu1
        have bu1 := b0.trans (hbu1.mono b0.size)
        have zu1 := hbu1.size
        refine hK _ _ ⟨rhu1, rau1, rfu1, rtu1⟩ ?_
        clear hK K
        repeat (refine plan_take _ rfl ?_; (first | ((with_reducible refine wpQuiet_at ⟨some 20, _, _, _, _, _⟩ ?_); refine wpQuiet_valueG rfl _ (by intro _ hS; exact exec_load1 _ 3 _ rfl ⟨w1.heap.size, 0, none⟩ rfl _ (hS.2.1.cell (j := 0) rfl) _ Try.underlying3 rfl) (wpQuiet_nil ?_); simp only [Act.put, List.setIfInBounds_toArray, List.set_cons_zero, List.set_cons_succ]) | ((with_reducible refine wpQuiet_at ⟨some 22, _, _, _, _, _⟩ ?_); refine wpQuiet_valueG rfl _ (by intro _ hS; exact exec_load1 _ 80 _ rfl ⟨w7.heap.size, kq, none⟩ rfl (.func (.func F) #[] #[]) (hS.2.2.2.cell (j := kq) HA.out) _ Try.underlying80 rfl) (wpQuiet_nil ?_); simp only [Act.put, List.setIfInBounds_toArray, List.set_cons_zero, List.set_cons_succ]) | ((with_reducible refine wpQuiet_at ⟨some 23, _, _, _, _, _⟩ ?_); refine wpQuiet_valueG rfl _ (by intro _ hS; exact exec_loadH _ _ rfl (w.heap.size) rfl h H16.out hS.1) (wpQuiet_nil ?_); simp only [Act.put, List.setIfInBounds_toArray, List.set_cons_zero, List.set_cons_succ]) | ((with_reducible refine wpQuiet_at ⟨some 24, _, _, _, _, _⟩ ?_); refine wpQuiet_valueG rfl _ (by intro _ hS; exact exec_loadA _ _ rfl (w1.heap.size) rfl (⟨(kq : Int), b, c, s⟩ : DvA) hS.2.1) (wpQuiet_nil ?_); simp only [Act.put, List.setIfInBounds_toArray, List.set_cons_zero, List.set_cons_succ]) | ((with_reducible refine wpQuiet_at ⟨some 25, _, _, _, _, _⟩ ?_); refine wpQuiet_valueG rfl _ (by intro _ hS; exact exec_loadT _ _ rfl (w2.heap.size) rfl (⟨cut, n, nz⟩ : DvF) hS.2.2.1) (wpQuiet_nil ?_); simp only [Act.put, List.setIfInBounds_toArray, List.set_cons_zero, List.set_cons_succ]) | (go_big_quiet_step ((intros; rfl)); refine wpQuiet_nil ?_)))
        refine plan_two ?_ ?_
        · refine step_at _ rfl fun K hK => ?_
          refine step_alloc rfl _ rfl zeroH zero_hw ?_
          intro wu2 z10u2 su2 gu2
          have hu2 := grown_below gu2 (Nat.le_refl _) (by simp)
          have rhu2 := rhu1.on hu2
          have rau2 := rau1.on hu2
          have rfu2 := rfu1.on hu2
          have rtu2 := rtu1.on hu2
          have oku2 := oku1.on hu2
          have hku2 := hku1.on hu2
          have bu2 := bu1.trans (hu2.mono bu1.size)
          have zu2 := hu2.size
          refine hK _ _ ⟨rhu2, rau2, rfu2, rtu2⟩ ?_
          clear hK K
          simp only [Act.put, List.setIfInBounds_toArray, List.set_cons_zero, List.set_cons_succ]
          refine plan_one _ rfl fun K hK => ?_
          refine step_alloc rfl _ rfl zeroR zero_rs ?_
          intro wu3 z11u3 su3 gu3
          have hu3 := grown_below gu3 (Nat.le_refl _) (by simp)
          have rhu3 := rhu2.on hu3
          have rau3 := rau2.on hu3
          have rfu3 := rfu2.on hu3
          have rtu3 := rtu2.on hu3
          have oku3 := oku2.on hu3
          have hku3 := hku2.on hu3
          have z10u3 := z10u2.on hu3
          have bu3 := bu2.trans (hu3.mono bu2.size)
          have zu3 := hu3.size
          refine hK _ _ ⟨rhu3, rau3, rfu3, rtu3⟩ ?_
          clear hK K
          simp only [Act.put, List.setIfInBounds_toArray, List.set_cons_zero, List.set_cons_succ]
          refine plan_one _ rfl fun K hK => ?_
          refine step_store_all rfl _ _ _ rfl (wu1.heap.size) rfl _ _ z10u3 (hu1.cs) rfl (Hw.cs_one _) (hw_zl hku3.h16) (hw_size hku3.h16) ?_
          intro wu4 ru4 gu4
          have rhu4 := rhu3.kept gu4 (by simp; omega)
          have rau4 := rau3.kept gu4 (by simp; omega)
          have rfu4 := rfu3.kept gu4 (by simp; omega)
          have rtu4 := rtu3.kept gu4 (by simp; omega)
          have hku4 := hku3.apart inu1 gu4 (by rintro ⟨⟨h1, _⟩ | h1, h2⟩ <;> omega)
          have z11u4 := z11u3.kept gu4 (by simp; omega)
          have bu4 := below_kept bu3 gu4 bu3.size (by rintro q hq; cases hq; omega)
          have zu4 := gu4.size
          refine hK _ _ ⟨rhu4, rau4, rfu4, rtu4⟩ ?_
          clear hK K
          simp only [Act.put]
          refine plan_one _ rfl fun K hK => ?_
          refine step_store_all rfl _ _ _ rfl (wu2.heap.size) rfl _ _ z11u4 (r.cs) rfl (DvR.cs_one _) rfl (by kernel_rfl) ?_
          intro wu5 ru5 gu5
          have rhu5 := rhu4.kept gu5 (by simp; omega)
          have rau5 := rau4.kept gu5 (by simp; omega)
          have rfu5 := rfu4.kept gu5 (by simp; omega)
          have rtu5 := rtu4.kept gu5 (by simp; omega)
          have hku5 := hku4.apart inu1 gu5 (by rintro ⟨⟨h1, _⟩ | h1, h2⟩ <;> omega)
          have ra1u5 := ru4.kept gu5 (by simp; omega)
          have bu5 := below_kept bu4 gu5 bu4.size (by rintro q hq; cases hq; omega)
          have zu5 := gu5.size
          refine hK _ _ ⟨rhu5, rau5, rfu5, rtu5⟩ ?_
          clear hK K
          simp only [Act.put]
          repeat (refine plan_take _ rfl ?_; (first | ((with_reducible refine wpQuiet_at ⟨some 20, _, _, _, _, _⟩ ?_); refine wpQuiet_valueG rfl _ (by intro _ hS; exact exec_load1 _ 3 _ rfl ⟨w1.heap.size, 0, none⟩ rfl _ (hS.2.1.cell (j := 0) rfl) _ Try.underlying3 rfl) (wpQuiet_nil ?_); simp only [Act.put, List.setIfInBounds_toArray, List.set_cons_zero, List.set_cons_succ]) | ((with_reducible refine wpQuiet_at ⟨some 22, _, _, _, _, _⟩ ?_); refine wpQuiet_valueG rfl _ (by intro _ hS; exact exec_load1 _ 80 _ rfl ⟨w7.heap.size, kq, none⟩ rfl (.func (.func F) #[] #[]) (hS.2.2.2.cell (j := kq) HA.out) _ Try.underlying80 rfl) (wpQuiet_nil ?_); simp only [Act.put, List.setIfInBounds_toArray, List.set_cons_zero, List.set_cons_succ]) | ((with_reducible refine wpQuiet_at ⟨some 23, _, _, _, _, _⟩ ?_); refine wpQuiet_valueG rfl _ (by intro _ hS; exact exec_loadH _ _ rfl (w.heap.size) rfl h H16.out hS.1) (wpQuiet_nil ?_); simp only [Act.put, List.setIfInBounds_toArray, List.set_cons_zero, List.set_cons_succ]) | ((with_reducible refine wpQuiet_at ⟨some 24, _, _, _, _, _⟩ ?_); refine wpQuiet_valueG rfl _ (by intro _ hS; exact exec_loadA _ _ rfl (w1.heap.size) rfl (⟨(kq : Int), b, c, s⟩ : DvA) hS.2.1) (wpQuiet_nil ?_); simp only [Act.put, List.setIfInBounds_toArray, List.set_cons_zero, List.set_cons_succ]) | ((with_reducible refine wpQuiet_at ⟨some 25, _, _, _, _, _⟩ ?_); refine wpQuiet_valueG rfl _ (by intro _ hS; exact exec_loadT _ _ rfl (w2.heap.size) rfl (⟨cut, n, nz⟩ : DvF) hS.2.2.1) (wpQuiet_nil ?_); simp only [Act.put, List.setIfInBounds_toArray, List.set_cons_zero, List.set_cons_succ]) | (go_big_quiet_step ((intros; rfl)); refine wpQuiet_nil ?_)))
          refine plan_done ?_
          go_wp2_with fail
          go_meet
          exact ⟨_, _, hu1, rfl, rfl, rfl, ra1u5, ru5, hku5, inu1.weak (fun q hq => by rcases hq with ⟨h1 | h1, h2⟩; exact .inl h1; exact .inr (by omega)), hsu1, by omega, by omega, by omega, bu5⟩
        · refine step_at _ rfl fun K hK => ?_
          refine step_alloc rfl _ rfl zeroR zero_rs ?_
          intro wu6 z11u6 su6 gu6
          have hu6 := grown_below gu6 (Nat.le_refl _) (by simp)
          have rhu6 := rhu1.on hu6
          have rau6 := rau1.on hu6
          have rfu6 := rfu1.on hu6
          have rtu6 := rtu1.on hu6
          have oku6 := oku1.on hu6
          have hku6 := hku1.on hu6
          have bu6 := bu1.trans (hu6.mono bu1.size)
          have zu6 := hu6.size
          refine hK _ _ ⟨rhu6, rau6, rfu6, rtu6⟩ ?_
          clear hK K
          simp only [Act.put, List.setIfInBounds_toArray, List.set_cons_zero, List.set_cons_succ]
          refine plan_one _ rfl fun K hK => ?_
          refine step_alloc rfl _ rfl zeroH zero_hw ?_
          intro wu7 z10u7 su7 gu7
          have hu7 := grown_below gu7 (Nat.le_refl _) (by simp)
          have rhu7 := rhu6.on hu7
          have rau7 := rau6.on hu7
          have rfu7 := rfu6.on hu7
          have rtu7 := rtu6.on hu7
          have oku7 := oku6.on hu7
          have hku7 := hku6.on hu7
          have z11u7 := z11u6.on hu7
          have bu7 := bu6.trans (hu7.mono bu6.size)
          have zu7 := hu7.size
          refine hK _ _ ⟨rhu7, rau7, rfu7, rtu7⟩ ?_
          clear hK K
          simp only [Act.put, List.setIfInBounds_toArray, List.set_cons_zero, List.set_cons_succ]
          refine plan_one _ rfl fun K hK => ?_
          refine step_store_all rfl _ _ _ rfl (wu6.heap.size) rfl _ _ z10u7 (hu1.cs) rfl (Hw.cs_one _) (hw_zl hku7.h16) (hw_size hku7.h16) ?_
          intro wu8 ru8 gu8
          have rhu8 := rhu7.kept gu8 (by simp; omega)
          have rau8 := rau7.kept gu8 (by simp; omega)
          have rfu8 := rfu7.kept gu8 (by simp; omega)
          have rtu8 := rtu7.kept gu8 (by simp; omega)
          have hku8 := hku7.apart inu1 gu8 (by rintro ⟨⟨h1, _⟩ | h1, h2⟩ <;> omega)
          have z11u8 := z11u7.kept gu8 (by simp; omega)
          have bu8 := below_kept bu7 gu8 bu7.size (by rintro q hq; cases hq; omega)
          have zu8 := gu8.size
          refine hK _ _ ⟨rhu8, rau8, rfu8, rtu8⟩ ?_
          clear hK K
          simp only [Act.put]
          refine plan_one _ rfl fun K hK => ?_
          refine step_store_all rfl _ _ _ rfl (wu1.heap.size) rfl _ _ z11u8 (r.cs) rfl (DvR.cs_one _) rfl (by kernel_rfl) ?_
          intro wu9 ru9 gu9
          have rhu9 := rhu8.kept gu9 (by simp; omega)
          have rau9 := rau8.kept gu9 (by simp; omega)
          have rfu9 := rfu8.kept gu9 (by simp; omega)
          have rtu9 := rtu8.kept gu9 (by simp; omega)
          have hku9 := hku8.apart inu1 gu9 (by rintro ⟨⟨h1, _⟩ | h1, h2⟩ <;> omega)
          have ra1u9 := ru8.kept gu9 (by simp; omega)
          have bu9 := below_kept bu8 gu9 bu8.size (by rintro q hq; cases hq; omega)
          have zu9 := gu9.size
          refine hK _ _ ⟨rhu9, rau9, rfu9, rtu9⟩ ?_
          clear hK K
          simp only [Act.put]
          repeat (refine plan_take _ rfl ?_; (first | ((with_reducible refine wpQuiet_at ⟨some 20, _, _, _, _, _⟩ ?_); refine wpQuiet_valueG rfl _ (by intro _ hS; exact exec_load1 _ 3 _ rfl ⟨w1.heap.size, 0, none⟩ rfl _ (hS.2.1.cell (j := 0) rfl) _ Try.underlying3 rfl) (wpQuiet_nil ?_); simp only [Act.put, List.setIfInBounds_toArray, List.set_cons_zero, List.set_cons_succ]) | ((with_reducible refine wpQuiet_at ⟨some 22, _, _, _, _, _⟩ ?_); refine wpQuiet_valueG rfl _ (by intro _ hS; exact exec_load1 _ 80 _ rfl ⟨w7.heap.size, kq, none⟩ rfl (.func (.func F) #[] #[]) (hS.2.2.2.cell (j := kq) HA.out) _ Try.underlying80 rfl) (wpQuiet_nil ?_); simp only [Act.put, List.setIfInBounds_toArray, List.set_cons_zero, List.set_cons_succ]) | ((with_reducible refine wpQuiet_at ⟨some 23, _, _, _, _, _⟩ ?_); refine wpQuiet_valueG rfl _ (by intro _ hS; exact exec_loadH _ _ rfl (w.heap.size) rfl h H16.out hS.1) (wpQuiet_nil ?_); simp only [Act.put, List.setIfInBounds_toArray, List.set_cons_zero, List.set_cons_succ]) | ((with_reducible refine wpQuiet_at ⟨some 24, _, _, _, _, _⟩ ?_); refine wpQuiet_valueG rfl _ (by intro _ hS; exact exec_loadA _ _ rfl (w1.heap.size) rfl (⟨(kq : Int), b, c, s⟩ : DvA) hS.2.1) (wpQuiet_nil ?_); simp only [Act.put, List.setIfInBounds_toArray, List.set_cons_zero, List.set_cons_succ]) | ((with_reducible refine wpQuiet_at ⟨some 25, _, _, _, _, _⟩ ?_); refine wpQuiet_valueG rfl _ (by intro _ hS; exact exec_loadT _ _ rfl (w2.heap.size) rfl (⟨cut, n, nz⟩ : DvF) hS.2.2.1) (wpQuiet_nil ?_); simp only [Act.put, List.setIfInBounds_toArray, List.set_cons_zero, List.set_cons_succ]) | (go_big_quiet_step ((intros; rfl)); refine wpQuiet_nil ?_)))
          refine plan_done ?_
          go_wp2_with fail
          go_meet
          exact ⟨_, _, hu1, rfl, rfl, rfl, ra1u9, ru9, hku9, inu1.weak (fun q hq => by rcases hq with ⟨h1 | h1, h2⟩; exact .inl h1; exact .inr (by omega)), hsu1, by omega, by omega, by omega, bu9⟩
      · refine step_at _ rfl fun K hK => ?_
        refine step_alloc rfl _ rfl zeroH zero_hw ?_
        intro wu10 z10u10 su10 gu10
        have hu10 := grown_below gu10 (Nat.le_refl _) (by simp)
        have rhu10 := rhd.on hu10
        have rau10 := rad.on hu10
        have rfu10 := rfd.on hu10
        have rtu10 := rtd.on hu10
        have oku10 := okd.on hu10
        have bu10 := b0.trans (hu10.mono b0.size)
        have zu10 := hu10.size
        refine hK _ _ ⟨rhu10, rau10, rfu10, rtu10⟩ ?_
        clear hK K
        simp only [Act.put, List.setIfInBounds_toArray, List.set_cons_zero, List.set_cons_succ]
        refine plan_two ?_ ?_
        · refine step_at _ rfl fun K hK => ?_
          go_simp
          rw [HCF.out]
          go_simp
          refine (HX _ _ HXA.out oku10).out.mono ?_
          rintro e wu11 ⟨hu11, rfl, hku11, hiu11, hsu11, hbu11⟩
          have inu11 := hiu11.and hku11.in_
          have rhu11 := rhu10.on hbu11
          have rau11 := rau10.on hbu11
          have rfu11 := rfu10.on hbu11
          have rtu11 := rtu10.on hbu11
          have oku11 := oku10.on hbu11
          have z10u11 := z10u10.on hbu11
          have bu11 := bu10.trans (hbu11.mono bu10.size)
          have zu11 := hbu11.size
          refine hK _ _ ⟨rhu11, rau11, rfu11, rtu11⟩ ?_
          clear hK K
          repeat (refine plan_take _ rfl ?_; (first | ((with_reducible refine wpQuiet_at ⟨some 20, _, _, _, _, _⟩ ?_); refine wpQuiet_valueG rfl _ (by intro _ hS; exact exec_load1 _ 3 _ rfl ⟨w1.heap.size, 0, none⟩ rfl _ (hS.2.1.cell (j := 0) rfl) _ Try.underlying3 rfl) (wpQuiet_nil ?_); simp only [Act.put, List.setIfInBounds_toArray, List.set_cons_zero, List.set_cons_succ]) | ((with_reducible refine wpQuiet_at ⟨some 22, _, _, _, _, _⟩ ?_); refine wpQuiet_valueG rfl _ (by intro _ hS; exact exec_load1 _ 80 _ rfl ⟨w7.heap.size, kq, none⟩ rfl (.func (.func F) #[] #[]) (hS.2.2.2.cell (j := kq) HA.out) _ Try.underlying80 rfl) (wpQuiet_nil ?_); simp only [Act.put, List.setIfInBounds_toArray, List.set_cons_zero, List.set_cons_succ]) | ((with_reducible refine wpQuiet_at ⟨some 23, _, _, _, _, _⟩ ?_); refine wpQuiet_valueG rfl _ (by intro _ hS; exact exec_loadH _ _ rfl (w.heap.size) rfl h H16.out hS.1) (wpQuiet_nil ?_); simp only [Act.put, List.setIfInBounds_toArray, List.set_cons_zero, List.set_cons_succ]) | ((with_reducible refine wpQuiet_at ⟨some 24, _, _, _, _, _⟩ ?_); refine wpQuiet_valueG rfl _ (by intro _ hS; exact exec_loadA _ _ rfl (w1.heap.size) rfl (⟨(kq : Int), b, c, s⟩ : DvA) hS.2.1) (wpQuiet_nil ?_); simp only [Act.put, List.setIfInBounds_toArray, List.set_cons_zero, List.set_cons_succ]) | ((with_reducible refine wpQuiet_at ⟨some 25, _, _, _, _, _⟩ ?_); refine wpQuiet_valueG rfl _ (by intro _ hS; exact exec_loadT _ _ rfl (w2.heap.size) rfl (⟨cut, n, nz⟩ : DvF) hS.2.2.1) (wpQuiet_nil ?_); simp only [Act.put, List.setIfInBounds_toArray, List.set_cons_zero, List.set_cons_succ]) | (go_big_quiet_step ((intros; rfl)); refine wpQuiet_nil ?_)))
          refine plan_one _ rfl fun K hK => ?_
          refine step_alloc rfl _ rfl zeroR zero_rs ?_
          intro wu12 z11u12 su12 gu12
          have hu12 := grown_below gu12 (Nat.le_refl _) (by simp)
          have rhu12 := rhu11.on hu12
          have rau12 := rau11.on hu12
          have rfu12 := rfu11.on hu12
          have rtu12 := rtu11.on hu12
          have oku12 := oku11.on hu12
          have z10u12 := z10u11.on hu12
          have hku12 := hku11.on hu12
          have bu12 := bu11.trans (hu12.mono bu11.size)
          have zu12 := hu12.size
          refine hK _ _ ⟨rhu12, rau12, rfu12, rtu12⟩ ?_
          clear hK K
          simp only [Act.put, List.setIfInBounds_toArray, List.set_cons_zero, List.set_cons_succ]
          refine plan_one _ rfl fun K hK => ?_
          refine step_store_all rfl _ _ _ rfl (w9.drew.heap.size) rfl _ _ z10u12 (hu11.cs) rfl (Hw.cs_one _) (hw_zl hku12.h16) (hw_size hku12.h16) ?_
          intro wu13 ru13 gu13
          have rhu13 := rhu12.kept gu13 (by simp; omega)
          have rau13 := rau12.kept gu13 (by simp; omega)
          have rfu13 := rfu12.kept gu13 (by simp; omega)
          have rtu13 := rtu12.kept gu13 (by simp; omega)
          have hku13 := hku12.apart inu11 gu13 (by rintro ⟨⟨h1, _⟩ | h1, h2⟩ <;> omega)
          have z11u13 := z11u12.kept gu13 (by simp; omega)
          have bu13 := below_kept bu12 gu13 bu12.size (by rintro q hq; cases hq; omega)
          have zu13 := gu13.size
          refine hK _ _ ⟨rhu13, rau13, rfu13, rtu13⟩ ?_
          clear hK K
          simp only [Act.put]
          refine plan_one _ rfl fun K hK => ?_
          refine step_store_all rfl _ _ _ rfl (wu11.heap.size) rfl _ _ z11u13 (r.cs) rfl (DvR.cs_one _) rfl (by kernel_rfl) ?_
          intro wu14 ru14 gu14
          have rhu14 := rhu13.kept gu14 (by simp; omega)
          have rau14 := rau13.kept gu14 (by simp; omega)
          have rfu14 := rfu13.kept gu14 (by simp; omega)
          have rtu14 := rtu13.kept gu14 (by simp; omega)
          have hku14 := hku13.apart inu11 gu14 (by rintro ⟨⟨h1, _⟩ | h1, h2⟩ <;> omega)
          have ra1u14 := ru13.kept gu14 (by simp; omega)
          have bu14 := below_kept bu13 gu14 bu13.size (by rintro q hq; cases hq; omega)
          have zu14 := gu14.size
          refine hK _ _ ⟨rhu14, rau14, rfu14, rtu14⟩ ?_
          clear hK K
          simp only [Act.put]
          repeat (refine plan_take _ rfl ?_; (first | ((with_reducible refine wpQuiet_at ⟨some 20, _, _, _, _, _⟩ ?_); refine wpQuiet_valueG rfl _ (by intro _ hS; exact exec_load1 _ 3 _ rfl ⟨w1.heap.size, 0, none⟩ rfl _ (hS.2.1.cell (j := 0) rfl) _ Try.underlying3 rfl) (wpQuiet_nil ?_); simp only [Act.put, List.setIfInBounds_toArray, List.set_cons_zero, List.set_cons_succ]) | ((with_reducible refine wpQuiet_at ⟨some 22, _, _, _, _, _⟩ ?_); refine wpQuiet_valueG rfl _ (by intro _ hS; exact exec_load1 _ 80 _ rfl ⟨w7.heap.size, kq, none⟩ rfl (.func (.func F) #[] #[]) (hS.2.2.2.cell (j := kq) HA.out) _ Try.underlying80 rfl) (wpQuiet_nil ?_); simp only [Act.put, List.setIfInBounds_toArray, List.set_cons_zero, List.set_cons_succ]) | ((with_reducible refine wpQuiet_at ⟨some 23, _, _, _, _, _⟩ ?_); refine wpQuiet_valueG rfl _ (by intro _ hS; exact exec_loadH _ _ rfl (w.heap.size) rfl h H16.out hS.1) (wpQuiet_nil ?_); simp only [Act.put, List.setIfInBounds_toArray, List.set_cons_zero, List.set_cons_succ]) | ((with_reducible refine wpQuiet_at ⟨some 24, _, _, _, _, _⟩ ?_); refine wpQuiet_valueG rfl _ (by intro _ hS; exact exec_loadA _ _ rfl (w1.heap.size) rfl (⟨(kq : Int), b, c, s⟩ : DvA) hS.2.1) (wpQuiet_nil ?_); simp only [Act.put, List.setIfInBounds_toArray, List.set_cons_zero, List.set_cons_succ]) | ((with_reducible refine wpQuiet_at ⟨some 25, _, _, _, _, _⟩ ?_); refine wpQuiet_valueG rfl _ (by intro _ hS; exact exec_loadT _ _ rfl (w2.heap.size) rfl (⟨cut, n, nz⟩ : DvF) hS.2.2.1) (wpQuiet_nil ?_); simp only [Act.put, List.setIfInBounds_toArray, List.set_cons_zero, List.set_cons_succ]) | (go_big_quiet_step ((intros; rfl)); refine wpQuiet_nil ?_)))
          refine plan_done ?_
          go_wp2_with fail
          go_meet
          exact ⟨_, _, hu11, rfl, rfl, rfl, ra1u14, ru14, hku14, inu11.weak (fun q hq => by rcases hq with ⟨h1 | h1, h2⟩; exact .inl h1; exact .inr (by omega)), hsu11, by omega, by omega, by omega, bu14⟩
        · refine step_at _ rfl fun K hK => ?_
          refine step_alloc rfl _ rfl zeroR zero_rs ?_
          intro wu15 z11u15 su15 gu15
          have hu15 := grown_below gu15 (Nat.le_refl _) (by simp)
          have rhu15 := rhu10.on hu15
          have rau15 := rau10.on hu15
          have rfu15 := rfu10.on hu15
          have rtu15 := rtu10.on hu15
          have oku15 := oku10.on hu15
          have z10u15 := z10u10.on hu15
          have bu15 := bu10.trans (hu15.mono bu10.size)
          have zu15 := hu15.size
          refine hK _ _ ⟨rhu15, rau15, rfu15, rtu15⟩ ?_
          clear hK K
          simp only [Act.put, List.setIfInBounds_toArray, List.set_cons_zero, List.set_cons_succ]
          refine plan_one _ rfl fun K hK => ?_
          go_simp
          rw [HCF.out]
          go_simp
          refine (HX _ _ HXA.out oku15).out.mono ?_
          rintro e wu16 ⟨hu16, rfl, hku16, hiu16, hsu16, hbu16⟩
          have inu16 := hiu16.and hku16.in_
          have rhu16 := rhu15.on hbu16
          have rau16 := rau15.on hbu16
          have rfu16 := rfu15.on hbu16
          have rtu16 := rtu15.on hbu16
          have oku16 := oku15.on hbu16
          have z10u16 := z10u15.on hbu16
          have z11u16 := z11u15.on hbu16
          have bu16 := bu15.trans (hbu16.mono bu15.size)
          have zu16 := hbu16.size
          refine hK _ _ ⟨rhu16, rau16, rfu16, rtu16⟩ ?_
          clear hK K
          repeat (refine plan_take _ rfl ?_; (first | ((with_reducible refine wpQuiet_at ⟨some 20, _, _, _, _, _⟩ ?_); refine wpQuiet_valueG rfl _ (by intro _ hS; exact exec_load1 _ 3 _ rfl ⟨w1.heap.size, 0, none⟩ rfl _ (hS.2.1.cell (j := 0) rfl) _ Try.underlying3 rfl) (wpQuiet_nil ?_); simp only [Act.put, List.setIfInBounds_toArray, List.set_cons_zero, List.set_cons_succ]) | ((with_reducible refine wpQuiet_at ⟨some 22, _, _, _, _, _⟩ ?_); refine wpQuiet_valueG rfl _ (by intro _ hS; exact exec_load1 _ 80 _ rfl ⟨w7.heap.size, kq, none⟩ rfl (.func (.func F) #[] #[]) (hS.2.2.2.cell (j := kq) HA.out) _ Try.underlying80 rfl) (wpQuiet_nil ?_); simp only [Act.put, List.setIfInBounds_toArray, List.set_cons_zero, List.set_cons_succ]) | ((with_reducible refine wpQuiet_at ⟨some 23, _, _, _, _, _⟩ ?_); refine wpQuiet_valueG rfl _ (by intro _ hS; exact exec_loadH _ _ rfl (w.heap.size) rfl h H16.out hS.1) (wpQuiet_nil ?_); simp only [Act.put, List.setIfInBounds_toArray, List.set_cons_zero, List.set_cons_succ]) | ((with_reducible refine wpQuiet_at ⟨some 24, _, _, _, _, _⟩ ?_); refine wpQuiet_valueG rfl _ (by intro _ hS; exact exec_loadA _ _ rfl (w1.heap.size) rfl (⟨(kq : Int), b, c, s⟩ : DvA) hS.2.1) (wpQuiet_nil ?_); simp only [Act.put, List.setIfInBounds_toArray, List.set_cons_zero, List.set_cons_succ]) | ((with_reducible refine wpQuiet_at ⟨some 25, _, _, _, _, _⟩ ?_); refine wpQuiet_valueG rfl _ (by intro _ hS; exact exec_loadT _ _ rfl (w2.heap.size) rfl (⟨cut, n, nz⟩ : DvF) hS.2.2.1) (wpQuiet_nil ?_); simp only [Act.put, List.setIfInBounds_toArray, List.set_cons_zero, List.set_cons_succ]) | (go_big_quiet_step ((intros; rfl)); refine wpQuiet_nil ?_)))
          refine plan_one _ rfl fun K hK => ?_
          refine step_store_all rfl _ _ _ rfl (w9.drew.heap.size) rfl _ _ z10u16 (hu16.cs) rfl (Hw.cs_one _) (hw_zl hku16.h16) (hw_size hku16.h16) ?_
          intro wu17 ru17 gu17
          have rhu17 := rhu16.kept gu17 (by simp; omega)
          have rau17 := rau16.kept gu17 (by simp; omega)
          have rfu17 := rfu16.kept gu17 (by simp; omega)
          have rtu17 := rtu16.kept gu17 (by simp; omega)
          have z11u17 := z11u16.kept gu17 (by simp; omega)
          have hku17 := hku16.apart inu16 gu17 (by rintro ⟨⟨h1, _⟩ | h1, h2⟩ <;> omega)
          have bu17 := below_kept bu16 gu17 bu16.size (by rintro q hq; cases hq; omega)
          have zu17 := gu17.size
          refine hK _ _ ⟨rhu17, rau17, rfu17, rtu17⟩ ?_
          clear hK K
          simp only [Act.put]
          refine plan_one _ rfl fun K hK => ?_
          refine step_store_all rfl _ _ _ rfl (wu10.heap.size) rfl _ _ z11u17 (r.cs) rfl (DvR.cs_one _) rfl (by kernel_rfl) ?_
          intro wu18 ru18 gu18
          have rhu18 := rhu17.kept gu18 (by simp; omega)
          have rau18 := rau17.kept gu18 (by simp; omega)
          have rfu18 := rfu17.kept gu18 (by simp; omega)
          have rtu18 := rtu17.kept gu18 (by simp; omega)
          have hku18 := hku17.apart inu16 gu18 (by rintro ⟨⟨h1, _⟩ | h1, h2⟩ <;> omega)
          have ra1u18 := ru17.kept gu18 (by simp; omega)
          have bu18 := below_kept bu17 gu18 bu17.size (by rintro q hq; cases hq; omega)
          have zu18 := gu18.size
          refine hK _ _ ⟨rhu18, rau18, rfu18, rtu18⟩ ?_
          clear hK K
          simp only [Act.put]
          repeat (refine plan_take _ rfl ?_; (first | ((with_reducible refine wpQuiet_at ⟨some 20, _, _, _, _, _⟩ ?_); refine wpQuiet_valueG rfl _ (by intro _ hS; exact exec_load1 _ 3 _ rfl ⟨w1.heap.size, 0, none⟩ rfl _ (hS.2.1.cell (j := 0) rfl) _ Try.underlying3 rfl) (wpQuiet_nil ?_); simp only [Act.put, List.setIfInBounds_toArray, List.set_cons_zero, List.set_cons_succ]) | ((with_reducible refine wpQuiet_at ⟨some 22, _, _, _, _, _⟩ ?_); refine wpQuiet_valueG rfl _ (by intro _ hS; exact exec_load1 _ 80 _ rfl ⟨w7.heap.size, kq, none⟩ rfl (.func (.func F) #[] #[]) (hS.2.2.2.cell (j := kq) HA.out) _ Try.underlying80 rfl) (wpQuiet_nil ?_); simp only [Act.put, List.setIfInBounds_toArray, List.set_cons_zero, List.set_cons_succ]) | ((with_reducible refine wpQuiet_at ⟨some 23, _, _, _, _, _⟩ ?_); refine wpQuiet_valueG rfl _ (by intro _ hS; exact exec_loadH _ _ rfl (w.heap.size) rfl h H16.out hS.1) (wpQuiet_nil ?_); simp only [Act.put, List.setIfInBounds_toArray, List.set_cons_zero, List.set_cons_succ]) | ((with_reducible refine wpQuiet_at ⟨some 24, _, _, _, _, _⟩ ?_); refine wpQuiet_valueG rfl _ (by intro _ hS; exact exec_loadA _ _ rfl (w1.heap.size) rfl (⟨(kq : Int), b, c, s⟩ : DvA) hS.2.1) (wpQuiet_nil ?_); simp only [Act.put, List.setIfInBounds_toArray, List.set_cons_zero, List.set_cons_succ]) | ((with_reducible refine wpQuiet_at ⟨some 25, _, _, _, _, _⟩ ?_); refine wpQuiet_valueG rfl _ (by intro _ hS; exact exec_loadT _ _ rfl (w2.heap.size) rfl (⟨cut, n, nz⟩ : DvF) hS.2.2.1) (wpQuiet_nil ?_); simp only [Act.put, List.setIfInBounds_toArray, List.set_cons_zero, List.set_cons_succ]) | (go_big_quiet_step ((intros; rfl)); refine wpQuiet_nil ?_)))
          refine plan_done ?_
          go_wp2_with fail
          go_meet
          exact ⟨_, _, hu16, rfl, rfl, rfl, ra1u18, ru18, hku18, inu16.weak (fun q hq => by rcases hq with ⟨h1 | h1, h2⟩; exact .inl h1; exact .inr (by omega)), hsu16, by omega, by omega, by omega, bu18⟩
      · refine step_at _ rfl fun K hK => ?_
        refine step_alloc rfl _ rfl zeroR zero_rs ?_
        intro wu19 z11u19 su19 gu19
        have hu19 := grown_below gu19 (Nat.le_refl _) (by simp)
        have rhu19 := rhd.on hu19
        have rau19 := rad.on hu19
        have rfu19 := rfd.on hu19
        have rtu19 := rtd.on hu19
        have oku19 := okd.on hu19
        have bu19 := b0.trans (hu19.mono b0.size)
        have zu19 := hu19.size
        refine hK _ _ ⟨rhu19, rau19, rfu19, rtu19⟩ ?_
        clear hK K
        simp only [Act.put, List.setIfInBounds_toArray, List.set_cons_zero, List.set_cons_succ]
        refine plan_two ?_ ?_
        · refine step_at _ rfl fun K hK => ?_
          go_simp
          rw [HCF.out]
          go_simp
          refine (HX _ _ HXA.out oku19).out.mono ?_
          rintro e wu20 ⟨hu20, rfl, hku20, hiu20, hsu20, hbu20⟩
          have inu20 := hiu20.and hku20.in_
          have rhu20 := rhu19.on hbu20
          have rau20 := rau19.on hbu20
          have rfu20 := rfu19.on hbu20
          have rtu20 := rtu19.on hbu20
          have oku20 := oku19.on hbu20
          have z11u20 := z11u19.on hbu20
          have bu20 := bu19.trans (hbu20.mono bu19.size)
          have zu20 := hbu20.size
          refine hK _ _ ⟨rhu20, rau20, rfu20, rtu20⟩ ?_
          clear hK K
          repeat (refine plan_take _ rfl ?_; (first | ((with_reducible refine wpQuiet_at ⟨some 20, _, _, _, _, _⟩ ?_); refine wpQuiet_valueG rfl _ (by intro _ hS; exact exec_load1 _ 3 _ rfl ⟨w1.heap.size, 0, none⟩ rfl _ (hS.2.1.cell (j := 0) rfl) _ Try.underlying3 rfl) (wpQuiet_nil ?_); simp only [Act.put, List.setIfInBounds_toArray, List.set_cons_zero, List.set_cons_succ]) | ((with_reducible refine wpQuiet_at ⟨some 22, _, _, _, _, _⟩ ?_); refine wpQuiet_valueG rfl _ (by intro _ hS; exact exec_load1 _ 80 _ rfl ⟨w7.heap.size, kq, none⟩ rfl (.func (.func F) #[] #[]) (hS.2.2.2.cell (j := kq) HA.out) _ Try.underlying80 rfl) (wpQuiet_nil ?_); simp only [Act.put, List.setIfInBounds_toArray, List.set_cons_zero, List.set_cons_succ]) | ((with_reducible refine wpQuiet_at ⟨some 23, _, _, _, _, _⟩ ?_); refine wpQuiet_valueG rfl _ (by intro _ hS; exact exec_loadH _ _ rfl (w.heap.size) rfl h H16.out hS.1) (wpQuiet_nil ?_); simp only [Act.put, List.setIfInBounds_toArray, List.set_cons_zero, List.set_cons_succ]) | ((with_reducible refine wpQuiet_at ⟨some 24, _, _, _, _, _⟩ ?_); refine wpQuiet_valueG rfl _ (by intro _ hS; exact exec_loadA _ _ rfl (w1.heap.size) rfl (⟨(kq : Int), b, c, s⟩ : DvA) hS.2.1) (wpQuiet_nil ?_); simp only [Act.put, List.setIfInBounds_toArray, List.set_cons_zero, List.set_cons_succ]) | ((with_reducible refine wpQuiet_at ⟨some 25, _, _, _, _, _⟩ ?_); refine wpQuiet_valueG rfl _ (by intro _ hS; exact exec_loadT _ _ rfl (w2.heap.size) rfl (⟨cut, n, nz⟩ : DvF) hS.2.2.1) (wpQuiet_nil ?_); simp only [Act.put, List.setIfInBounds_toArray, List.set_cons_zero, List.set_cons_succ]) | (go_big_quiet_step ((intros; rfl)); refine wpQuiet_nil ?_)))
          refine plan_one _ rfl fun K hK => ?_
          refine step_alloc rfl _ rfl zeroH zero_hw ?_
          intro wu21 z10u21 su21 gu21
          have hu21 := grown_below gu21 (Nat.le_refl _) (by simp)
          have rhu21 := rhu20.on hu21
          have rau21 := rau20.on hu21
          have rfu21 := rfu20.on hu21
          have rtu21 := rtu20.on hu21
          have oku21 := oku20.on hu21
          have z11u21 := z11u20.on hu21
          have hku21 := hku20.on hu21
          have bu21 := bu20.trans (hu21.mono bu20.size)
          have zu21 := hu21.size
          refine hK _ _ ⟨rhu21, rau21, rfu21, rtu21⟩ ?_
          clear hK K
          simp only [Act.put, List.setIfInBounds_toArray, List.set_cons_zero, List.set_cons_succ]
          refine plan_one _ rfl fun K hK => ?_
          refine step_store_all rfl _ _ _ rfl (wu20.heap.size) rfl _ _ z10u21 (hu20.cs) rfl (Hw.cs_one _) (hw_zl hku21.h16) (hw_size hku21.h16) ?_
          intro wu22 ru22 gu22
          have rhu22 := rhu21.kept gu22 (by simp; omega)
          have rau22 := rau21.kept gu22 (by simp; omega)
          have rfu22 := rfu21.kept gu22 (by simp; omega)
          have rtu22 := rtu21.kept gu22 (by simp; omega)
          have z11u22 := z11u21.kept gu22 (by simp; omega)
          have hku22 := hku21.apart inu20 gu22 (by rintro ⟨⟨h1, _⟩ | h1, h2⟩ <;> omega)
          have bu22 := below_kept bu21 gu22 bu21.size (by rintro q hq; cases hq; omega)
          have zu22 := gu22.size
          refine hK _ _ ⟨rhu22, rau22, rfu22, rtu22⟩ ?_
          clear hK K
          simp only [Act.put]
          refine plan_one _ rfl fun K hK => ?_
          refine step_store_all rfl _ _ _ rfl (w9.drew.heap.size) rfl _ _ z11u22 (r.cs) rfl (DvR.cs_one _) rfl (by kernel_rfl) ?_
          intro wu23 ru23 gu23
          have rhu23 := rhu22.kept gu23 (by simp; omega)
          have rau23 := rau22.kept gu23 (by simp; omega)
          have rfu23 := rfu22.kept gu23 (by simp; omega)
          have rtu23 := rtu22.kept gu23 (by simp; omega)
          have hku23 := hku22.apart inu20 gu23 (by rintro ⟨⟨h1, _⟩ | h1, h2⟩ <;> omega)
          have ra1u23 := ru22.kept gu23 (by simp; omega)
          have bu23 := below_kept bu22 gu23 bu22.size (by rintro q hq; cases hq; omega)
          have zu23 := gu23.size
          refine hK _ _ ⟨rhu23, rau23, rfu23, rtu23⟩ ?_
          clear hK K
          simp only [Act.put]
          repeat (refine plan_take _ rfl ?_; (first | ((with_reducible refine wpQuiet_at ⟨some 20, _, _, _, _, _⟩ ?_); refine wpQuiet_valueG rfl _ (by intro _ hS; exact exec_load1 _ 3 _ rfl ⟨w1.heap.size, 0, none⟩ rfl _ (hS.2.1.cell (j := 0) rfl) _ Try.underlying3 rfl) (wpQuiet_nil ?_); simp only [Act.put, List.setIfInBounds_toArray, List.set_cons_zero, List.set_cons_succ]) | ((with_reducible refine wpQuiet_at ⟨some 22, _, _, _, _, _⟩ ?_); refine wpQuiet_valueG rfl _ (by intro _ hS; exact exec_load1 _ 80 _ rfl ⟨w7.heap.size, kq, none⟩ rfl (.func (.func F) #[] #[]) (hS.2.2.2.cell (j := kq) HA.out) _ Try.underlying80 rfl) (wpQuiet_nil ?_); simp only [Act.put, List.setIfInBounds_toArray, List.set_cons_zero, List.set_cons_succ]) | ((with_reducible refine wpQuiet_at ⟨some 23, _, _, _, _, _⟩ ?_); refine wpQuiet_valueG rfl _ (by intro _ hS; exact exec_loadH _ _ rfl (w.heap.size) rfl h H16.out hS.1) (wpQuiet_nil ?_); simp only [Act.put, List.setIfInBounds_toArray, List.set_cons_zero, List.set_cons_succ]) | ((with_reducible refine wpQuiet_at ⟨some 24, _, _, _, _, _⟩ ?_); refine wpQuiet_valueG rfl _ (by intro _ hS; exact exec_loadA _ _ rfl (w1.heap.size) rfl (⟨(kq : Int), b, c, s⟩ : DvA) hS.2.1) (wpQuiet_nil ?_); simp only [Act.put, List.setIfInBounds_toArray, List.set_cons_zero, List.set_cons_succ]) | ((with_reducible refine wpQuiet_at ⟨some 25, _, _, _, _, _⟩ ?_); refine wpQuiet_valueG rfl _ (by intro _ hS; exact exec_loadT _ _ rfl (w2.heap.size) rfl (⟨cut, n, nz⟩ : DvF) hS.2.2.1) (wpQuiet_nil ?_); simp only [Act.put, List.setIfInBounds_toArray, List.set_cons_zero, List.set_cons_succ]) | (go_big_quiet_step ((intros; rfl)); refine wpQuiet_nil ?_)))
          refine plan_done ?_
          go_wp2_with fail
          go_meet
          exact ⟨_, _, hu20, rfl, rfl, rfl, ra1u23, ru23, hku23, inu20.weak (fun q hq => by rcases hq with ⟨h1 | h1, h2⟩; exact .inl h1; exact .inr (by omega)), hsu20, by omega, by omega, by omega, bu23⟩
        · refine step_at _ rfl fun K hK => ?_
          refine step_alloc rfl _ rfl zeroH zero_hw ?_
          intro wu24 z10u24 su24 gu24
          have hu24 := grown_below gu24 (Nat.le_refl _) (by simp)
          have rhu24 := rhu19.on hu24
          have rau24 := rau19.on hu24
          have rfu24 := rfu19.on hu24
          have rtu24 := rtu19.on hu24
          have oku24 := oku19.on hu24
          have z11u24 := z11u19.on hu24
          have bu24 := bu19.trans (hu24.mono bu19.size)
          have zu24 := hu24.size
          refine hK _ _ ⟨rhu24, rau24, rfu24, rtu24⟩ ?_
          clear hK K
          simp only [Act.put, List.setIfInBounds_toArray, List.set_cons_zero, List.set_cons_succ]
          refine plan_one _ rfl fun K hK => ?_
          go_simp
          rw [HCF.out]
          go_simp
          refine (HX _ _ HXA.out oku24).out.mono ?_
          rintro e wu25 ⟨hu25, rfl, hku25, hiu25, hsu25, hbu25⟩
          have inu25 := hiu25.and hku25.in_
          have rhu25 := rhu24.on hbu25
          have rau25 := rau24.on hbu25
          have rfu25 := rfu24.on hbu25
          have rtu25 := rtu24.on hbu25
          have oku25 := oku24.on hbu25
          have z11u25 := z11u24.on hbu25
          have z10u25 := z10u24.on hbu25
          have bu25 := bu24.trans (hbu25.mono bu24.size)
          have zu25 := hbu25.size
          refine hK _ _ ⟨rhu25, rau25, rfu25, rtu25⟩ ?_
          clear hK K
          repeat (refine plan_take _ rfl ?_; (first | ((with_reducible refine wpQuiet_at ⟨some 20, _, _, _, _, _⟩ ?_); refine wpQuiet_valueG rfl _ (by intro _ hS; exact exec_load1 _ 3 _ rfl ⟨w1.heap.size, 0, none⟩ rfl _ (hS.2.1.cell (j := 0) rfl) _ Try.underlying3 rfl) (wpQuiet_nil ?_); simp only [Act.put, List.setIfInBounds_toArray, List.set_cons_zero, List.set_cons_succ]) | ((with_reducible refine wpQuiet_at ⟨some 22, _, _, _, _, _⟩ ?_); refine wpQuiet_valueG rfl _ (by intro _ hS; exact exec_load1 _ 80 _ rfl ⟨w7.heap.size, kq, none⟩ rfl (.func (.func F) #[] #[]) (hS.2.2.2.cell (j := kq) HA.out) _ Try.underlying80 rfl) (wpQuiet_nil ?_); simp only [Act.put, List.setIfInBounds_toArray, List.set_cons_zero, List.set_cons_succ]) | ((with_reducible refine wpQuiet_at ⟨some 23, _, _, _, _, _⟩ ?_); refine wpQuiet_valueG rfl _ (by intro _ hS; exact exec_loadH _ _ rfl (w.heap.size) rfl h H16.out hS.1) (wpQuiet_nil ?_); simp only [Act.put, List.setIfInBounds_toArray, List.set_cons_zero, List.set_cons_succ]) | ((with_reducible refine wpQuiet_at ⟨some 24, _, _, _, _, _⟩ ?_); refine wpQuiet_valueG rfl _ (by intro _ hS; exact exec_loadA _ _ rfl (w1.heap.size) rfl (⟨(kq : Int), b, c, s⟩ : DvA) hS.2.1) (wpQuiet_nil ?_); simp only [Act.put, List.setIfInBounds_toArray, List.set_cons_zero, List.set_cons_succ]) | ((with_reducible refine wpQuiet_at ⟨some 25, _, _, _, _, _⟩ ?_); refine wpQuiet_valueG rfl _ (by intro _ hS; exact exec_loadT _ _ rfl (w2.heap.size) rfl (⟨cut, n, nz⟩ : DvF) hS.2.2.1) (wpQuiet_nil ?_); simp only [Act.put, List.setIfInBounds_toArray, List.set_cons_zero, List.set_cons_succ]) | (go_big_quiet_step ((intros; rfl)); refine wpQuiet_nil ?_)))
          refine plan_one _ rfl fun K hK => ?_
          refine step_store_all rfl _ _ _ rfl (wu19.heap.size) rfl _ _ z10u25 (hu25.cs) rfl (Hw.cs_one _) (hw_zl hku25.h16) (hw_size hku25.h16) ?_
          intro wu26 ru26 gu26
          have rhu26 := rhu25.kept gu26 (by simp; omega)
          have rau26 := rau25.kept gu26 (by simp; omega)
          have rfu26 := rfu25.kept gu26 (by simp; omega)
          have rtu26 := rtu25.kept gu26 (by simp; omega)
          have z11u26 := z11u25.kept gu26 (by simp; omega)
          have hku26 := hku25.apart inu25 gu26 (by rintro ⟨⟨h1, _⟩ | h1, h2⟩ <;> omega)
          have bu26 := below_kept bu25 gu26 bu25.size (by rintro q hq; cases hq; omega)
          have zu26 := gu26.size
          refine hK _ _ ⟨rhu26, rau26, rfu26, rtu26⟩ ?_
          clear hK K
          simp only [Act.put]
          refine plan_one _ rfl fun K hK => ?_
          refine step_store_all rfl _ _ _ rfl (w9.drew.heap.size) rfl _ _ z11u26 (r.cs) rfl (DvR.cs_one _) rfl (by kernel_rfl) ?_
          intro wu27 ru27 gu27
          have rhu27 := rhu26.kept gu27 (by simp; omega)
          have rau27 := rau26.kept gu27 (by simp; omega)
          have rfu27 := rfu26.kept gu27 (by simp; omega)
          have rtu27 := rtu26.kept gu27 (by simp; omega)
          have hku27 := hku26.apart inu25 gu27 (by rintro ⟨⟨h1, _⟩ | h1, h2⟩ <;> omega)
          have ra1u27 := ru26.kept gu27 (by simp; omega)
          have bu27 := below_kept bu26 gu27 bu26.size (by rintro q hq; cases hq; omega)
          have zu27 := gu27.size
          refine hK _ _ ⟨rhu27, rau27, rfu27, rtu27⟩ ?_
          clear hK K
          simp only [Act.put]
          repeat (refine plan_take _ rfl ?_; (first | ((with_reducible refine wpQuiet_at ⟨some 20, _, _, _, _, _⟩ ?_); refine wpQuiet_valueG rfl _ (by intro _ hS; exact exec_load1 _ 3 _ rfl ⟨w1.heap.size, 0, none⟩ rfl _ (hS.2.1.cell (j := 0) rfl) _ Try.underlying3 rfl) (wpQuiet_nil ?_); simp only [Act.put, List.setIfInBounds_toArray, List.set_cons_zero, List.set_cons_succ]) | ((with_reducible refine wpQuiet_at ⟨some 22, _, _, _, _, _⟩ ?_); refine wpQuiet_valueG rfl _ (by intro _ hS; exact exec_load1 _ 80 _ rfl ⟨w7.heap.size, kq, none⟩ rfl (.func (.func F) #[] #[]) (hS.2.2.2.cell (j := kq) HA.out) _ Try.underlying80 rfl) (wpQuiet_nil ?_); simp only [Act.put, List.setIfInBounds_toArray, List.set_cons_zero, List.set_cons_succ]) | ((with_reducible refine wpQuiet_at ⟨some 23, _, _, _, _, _⟩ ?_); refine wpQuiet_valueG rfl _ (by intro _ hS; exact exec_loadH _ _ rfl (w.heap.size) rfl h H16.out hS.1) (wpQuiet_nil ?_); simp only [Act.put, List.setIfInBounds_toArray, List.set_cons_zero, List.set_cons_succ]) | ((with_reducible refine wpQuiet_at ⟨some 24, _, _, _, _, _⟩ ?_); refine wpQuiet_valueG rfl _ (by intro _ hS; exact exec_loadA _ _ rfl (w1.heap.size) rfl (⟨(kq : Int), b, c, s⟩ : DvA) hS.2.1) (wpQuiet_nil ?_); simp only [Act.put, List.setIfInBounds_toArray, List.set_cons_zero, List.set_cons_succ]) | ((with_reducible refine wpQuiet_at ⟨some 25, _, _, _, _, _⟩ ?_); refine wpQuiet_valueG rfl _ (by intro _ hS; exact exec_loadT _ _ rfl (w2.heap.size) rfl (⟨cut, n, nz⟩ : DvF) hS.2.2.1) (wpQuiet_nil ?_); simp only [Act.put, List.setIfInBounds_toArray, List.set_cons_zero, List.set_cons_succ]) | (go_big_quiet_step ((intros; rfl)); refine wpQuiet_nil ?_)))
          refine plan_done ?_
          go_wp2_with fail
          go_meet
          exact ⟨_, _, hu25, rfl, rfl, rfl, ra1u27, ru27, hku27, inu25.weak (fun q hq => by rcases hq with ⟨h1 | h1, h2⟩; exact .inl h1; exact .inr (by omega)), hsu25, by omega, by omega, by omega, bu27⟩
    case rest =>
      revert wc
      intro wc hcut
      obtain ⟨ga, gr, h2, rfl, rfl, rfl, ra2, rr2, hk2, hi2, hs2, hga, hgr, hne, hbc⟩ := hcut
      have Bc := B9.trans (hbc.mono B9.size)
      have okh_c := okh_9.on hbc
      have rh_c := rh_9.on hbc
      have ra_c := ra_9.on hbc
      have rf_c := rf_9.on hbc
      have z6_c := z6_9.on hbc
      have z7_c := z7_9.on hbc
      have rt_c := rt_9.on hbc
      clear okh_9 rh_9 ra_9 rf_9 z6_9 z7_9 rt_9
      have cra0 := ra_c.cell (j := 0) rfl
      have cra1 := ra_c.cell (j := 1) rfl
      have cra2 := ra_c.cell (j := 2) rfl
      have cra3 := ra_c.cell (j := 3) rfl
      have crf0 := rf_c.cell (j := 0) rfl
      have crf1 := rf_c.cell (j := 1) rfl
      have crf2 := rf_c.cell (j := 2) rfl
      have H16b := Lib.hid hk2.h16
      have lz6c := z6_c.lt
      have lz7c := z7_c.lt
      have lrfc := rf_c.lt
      have hbz := hbc.size
      cases cut with
      | false =>
        have HFIN : Hid (∀ x : Int, Ending.returned (.tuple #[h2.v, r.v, .int .i64 x]) = Ending.returned (.tuple #[h2.v, (dvRs h.s ⟨(kq : Int), b, c, s⟩ ⟨false, n, nz⟩).v, .int .i64 x])) := Lib.hid (fun _ => by rw [HR.out rfl])
        have crf0 := rf_c.cell (j := 0) rfl
        have crf1 := rf_c.cell (j := 1) rfl
        have crf2 := rf_c.cell (j := 2) rfl
        go_wp2_with fail
        have b0 : Below w.heap.size w wc.drew := Bc.drew
        have z0 : wc.drew.heap.size = wc.heap.size := rfl
        have rae := ra2.drew
        have rre := rr2.drew
        have z6e := z6_c.drew
        have z7e := z7_c.drew
        have lz6 := z6e.lt
        have lz7 := z7e.lt
        have hke : HwOK wc.drew h2 := hk2
        refine wp_region_plan (fun w' => Row w' ga 31 h2.cs ∧ Row w' gr 40 r.cs) (.take 0 <| .take 1 <| .take 2 <| .one 3 <| .one 4 <| .take 5 <| .done) (by kernel_rfl) (by kernel_rfl) (by kernel_rfl) (fun _ _ _ _ _ h => h) ⟨rae, rre⟩ ?_
        repeat (refine plan_take _ rfl ?_; (first | ((with_reducible refine wpQuiet_at ⟨some 33, _, _, _, _, _⟩ ?_); refine wpQuiet_valueG rfl _ (by intro _ hS; exact exec_loadH _ _ rfl ga rfl h2 H16b.out hS.1) (wpQuiet_nil ?_); simp only [Act.put, List.setIfInBounds_toArray, List.set_cons_zero, List.set_cons_succ]) | ((with_reducible refine wpQuiet_at ⟨some 34, _, _, _, _, _⟩ ?_); refine wpQuiet_valueG rfl _ (by intro _ hS; exact exec_loadR _ _ rfl gr rfl r hS.2) (wpQuiet_nil ?_); simp only [Act.put, List.setIfInBounds_toArray, List.set_cons_zero, List.set_cons_succ]) | (go_big_quiet_step ((intros; rfl)); refine wpQuiet_nil ?_)))
        refine plan_one _ rfl fun K hK => ?_
        refine step_store_all rfl _ _ _ rfl (w3.heap.size) rfl _ _ z6e (h2.cs) rfl (Hw.cs_one _) (hw_zl H16b.out) (hw_size H16b.out) ?_
        intro wu28 ru28 gu28
        have rau28 := rae.kept gu28 (by simp; omega)
        have rru28 := rre.kept gu28 (by simp; omega)
        have z7u28 := z7e.kept gu28 (by simp; omega)
        have hku28 := hke.apart hi2 gu28 (by rintro (⟨h1, _⟩ | h1) <;> omega)
        have bu28 := below_kept b0 gu28 b0.size (by rintro q hq; cases hq; omega)
        refine hK _ _ ⟨rau28, rru28⟩ ?_
        clear hK K
        simp only [Act.put]
        refine plan_one _ rfl fun K hK => ?_
        refine step_store_all rfl _ _ _ rfl (w4.heap.size) rfl _ _ z7u28 (r.cs) rfl (DvR.cs_one _) rfl (by kernel_rfl) ?_
        intro wu29 ru29 gu29
        have rau29 := rau28.kept gu29 (by simp; omega)
        have rru29 := rru28.kept gu29 (by simp; omega)
        have z6su29 := ru28.kept gu29 (by simp; omega)
        have hku29 := hku28.apart hi2 gu29 (by rintro (⟨h1, _⟩ | h1) <;> omega)
        have bu29 := below_kept bu28 gu29 bu28.size (by rintro q hq; cases hq; omega)
        refine hK _ _ ⟨rau29, rru29⟩ ?_
        clear hK K
        simp only [Act.put]
        repeat (refine plan_take _ rfl ?_; (first | ((with_reducible refine wpQuiet_at ⟨some 33, _, _, _, _, _⟩ ?_); refine wpQuiet_valueG rfl _ (by intro _ hS; exact exec_loadH _ _ rfl ga rfl h2 H16b.out hS.1) (wpQuiet_nil ?_); simp only [Act.put, List.setIfInBounds_toArray, List.set_cons_zero, List.set_cons_succ]) | ((with_reducible refine wpQuiet_at ⟨some 34, _, _, _, _, _⟩ ?_); refine wpQuiet_valueG rfl _ (by intro _ hS; exact exec_loadR _ _ rfl gr rfl r hS.2) (wpQuiet_nil ?_); simp only [Act.put, List.setIfInBounds_toArray, List.set_cons_zero, List.set_cons_succ]) | (go_big_quiet_step ((intros; rfl)); refine wpQuiet_nil ?_)))
        refine plan_done ?_
        go_wp2_with fail
        refine bodyPost_ret (results_cells2 Try.results22 _ _ _ _ _ _ rfl rfl (load_hw z6su29 H16b.out) (load_rs ru29)) rfl ⟨h2, HFIN.out _, hku29, hi2.weak (fun q hq => by rcases hq with h1 | h1; exact .inl h1.2; exact .inr (by omega)), hs2, bu29⟩
      | true =>
        have HFIN : Hid (∀ x : Int, Ending.returned (.tuple #[h2.v, noR.v, .int .i64 x]) = Ending.returned (.tuple #[h2.v, (dvRs h.s ⟨(kq : Int), b, c, s⟩ ⟨true, n, nz⟩).v, .int .i64 x])) := Lib.hid (fun _ => by rw [dvRs_cut rfl])
        have crf0 := rf_c.cell (j := 0) rfl
        have crf1 := rf_c.cell (j := 1) rfl
        have crf2 := rf_c.cell (j := 2) rfl
        go_wp2_with ((with_reducible refine wpList_at ⟨none, .store _ (.tmp 11) _, _, _, _, _⟩ ?_); refine wpList_store_all rfl _ _ _ rfl gr rfl _ _ rr2 noR.cs rfl (DvR.cs_one _) rfl (by kernel_rfl) ?_; intro w6 r6 g6; have ra6 := ra2.kept g6 (by simp; omega); have z66 := z6_c.kept g6 (by simp; omega); have z76 := z7_c.kept g6 (by simp; omega))
        have hk6 := hk2.apart hi2 g6 (by rintro (⟨h1, _⟩ | h1) <;> omega)
        have B6 := below_kept Bc g6 Bc.size (by rintro q hq; cases hq; omega)
        have hs6 := g6.size
        clear ra2
        have ra2 := ra6
        go_wp2_with fail
        have b0 : Below w.heap.size w w6.drew := B6.drew
        have z0 : w6.drew.heap.size = w6.heap.size := rfl
        have rae := ra2.drew
        have rre := r6.drew
        have z6e := z66.drew
        have z7e := z76.drew
        have lz6 := z6e.lt
        have lz7 := z7e.lt
        have hke : HwOK w6.drew h2 := hk6
        refine wp_region_plan (fun w' => Row w' ga 31 h2.cs ∧ Row w' gr 40 noR.cs) (.take 0 <| .take 1 <| .take 2 <| .one 3 <| .one 4 <| .take 5 <| .done) (by kernel_rfl) (by kernel_rfl) (by kernel_rfl) (fun _ _ _ _ _ h => h) ⟨rae, rre⟩ ?_
        repeat (refine plan_take _ rfl ?_; (first | ((with_reducible refine wpQuiet_at ⟨some 33, _, _, _, _, _⟩ ?_); refine wpQuiet_valueG rfl _ (by intro _ hS; exact exec_loadH _ _ rfl ga rfl h2 H16b.out hS.1) (wpQuiet_nil ?_); simp only [Act.put, List.setIfInBounds_toArray, List.set_cons_zero, List.set_cons_succ]) | ((with_reducible refine wpQuiet_at ⟨some 34, _, _, _, _, _⟩ ?_); refine wpQuiet_valueG rfl _ (by intro _ hS; exact exec_loadR _ _ rfl gr rfl noR hS.2) (wpQuiet_nil ?_); simp only [Act.put, List.setIfInBounds_toArray, List.set_cons_zero, List.set_cons_succ]) | (go_big_quiet_step ((intros; rfl)); refine wpQuiet_nil ?_)))
        refine plan_one _ rfl fun K hK => ?_
        refine step_store_all rfl _ _ _ rfl (w3.heap.size) rfl _ _ z6e (h2.cs) rfl (Hw.cs_one _) (hw_zl H16b.out) (hw_size H16b.out) ?_
        intro wu30 ru30 gu30
        have rau30 := rae.kept gu30 (by simp; omega)
        have rru30 := rre.kept gu30 (by simp; omega)
        have z7u30 := z7e.kept gu30 (by simp; omega)
        have hku30 := hke.apart hi2 gu30 (by rintro (⟨h1, _⟩ | h1) <;> omega)
        have bu30 := below_kept b0 gu30 b0.size (by rintro q hq; cases hq; omega)
        refine hK _ _ ⟨rau30, rru30⟩ ?_
        clear hK K
        simp only [Act.put]
        refine plan_one _ rfl fun K hK => ?_
        refine step_store_all rfl _ _ _ rfl (w4.heap.size) rfl _ _ z7u30 (noR.cs) rfl (DvR.cs_one _) rfl (by kernel_rfl) ?_
        intro wu31 ru31 gu31
        have rau31 := rau30.kept gu31 (by simp; omega)
        have rru31 := rru30.kept gu31 (by simp; omega)
        have z6su31 := ru30.kept gu31 (by simp; omega)
        have hku31 := hku30.apart hi2 gu31 (by rintro (⟨h1, _⟩ | h1) <;> omega)
        have bu31 := below_kept bu30 gu31 bu30.size (by rintro q hq; cases hq; omega)
        refine hK _ _ ⟨rau31, rru31⟩ ?_
        clear hK K
        simp only [Act.put]
        repeat (refine plan_take _ rfl ?_; (first | ((with_reducible refine wpQuiet_at ⟨some 33, _, _, _, _, _⟩ ?_); refine wpQuiet_valueG rfl _ (by intro _ hS; exact exec_loadH _ _ rfl ga rfl h2 H16b.out hS.1) (wpQuiet_nil ?_); simp only [Act.put, List.setIfInBounds_toArray, List.set_cons_zero, List.set_cons_succ]) | ((with_reducible refine wpQuiet_at ⟨some 34, _, _, _, _, _⟩ ?_); refine wpQuiet_valueG rfl _ (by intro _ hS; exact exec_loadR _ _ rfl gr rfl noR hS.2) (wpQuiet_nil ?_); simp only [Act.put, List.setIfInBounds_toArray, List.set_cons_zero, List.set_cons_succ]) | (go_big_quiet_step ((intros; rfl)); refine wpQuiet_nil ?_)))
        refine plan_done ?_
        go_wp2_with fail
        refine bodyPost_ret (results_cells2 Try.results22 _ _ _ _ _ _ rfl rfl (load_hw z6su31 H16b.out) (load_rs ru31)) rfl ⟨h2, HFIN.out _, hku31, hi2.weak (fun q hq => by rcases hq with h1 | h1; exact .inl h1.2; exact .inr (by omega)), hs2, bu31⟩

end Go.Proofs.Ytkepmhkakkkliaa
