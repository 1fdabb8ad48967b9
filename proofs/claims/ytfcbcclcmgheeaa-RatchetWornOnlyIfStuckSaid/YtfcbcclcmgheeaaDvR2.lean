/-
  What the reference's Do returns: a contract by a walk. Condition: bounded lengths.
-/
import Derived.Test.YtfcbcclcmgheeaaDvQ
import Derived.Test.YtfcbcclcmgheeaaFuRP
namespace Go.Proofs.Ytfcbcclcmgheeaa
open Go.RowKit

set_option maxRecDepth 100000 in
set_option maxHeartbeats 4000000 in
theorem rdo2_any (X : Nat → Prop) (h : Hw) (b c : Int) (s : ByteArray) (f : DvF) (w : World) (hX : HwIn X h) (hok : HwOK w h) (hs : dvSm h.s) :
    Calls Try.prog 28 #[h.v, (⟨2, b, c, s⟩ : DvA).v, f.v] w (GivesD X (dvSt h.s ⟨2, b, c, s⟩ f) (dvRs h.s ⟨2, b, c, s⟩ f) (dvErr h.s ⟨2, b, c, s⟩) w) := by
  have HC := fun W h1 => Lib.hid (rpulse_in (fun q => q < w.heap.size ∧ X q) h.A h.n h.c h.ps (hok.in_.and hX).1 b c f.cut W h1 (hok.sm1 hs) (hok.sm2 hs))
  have H16 := Lib.hid hok.h16
  have HIX := Lib.hid (hok.in_.and hX)
  have HI1 : Hid (HwIn (fun q => (q < w.heap.size ∧ X q) ∨ (w.heap.size < q ∧ q < w.heap.size)) h) := Lib.hid (HIX.out.weak (fun q hq => .inl hq))
  clear hX
  by_cases hs0 : s = noB
  rotate_left
  · have hb : dvBad ⟨2, b, c, s⟩ = true := by rw [dvBad_fuse (.inr rfl)]; exact decide_eq_true hs0
    have hq := str_empty hs0
    clear hs0 HC
    have HE : Hid (dvErr h.s ⟨2, b, c, s⟩ = 1) := Lib.hid (dvErr_bad hb)
    rw [dvSt_bad hb, dvRs_bad hb]
    generalize dvErr h.s ⟨2, b, c, s⟩ = E at *
    obtain ⟨cut, n, nz⟩ := f
    clear hb hs
    go_enter Try.func28, Try.ntmps28
    go_wp2_with (first
      | ((with_reducible refine wpList_at ⟨some 3, _, _, _, _, _⟩ ?_); refine wpList_box_row rfl _ _ rfl (h.cs) rfl ?_; intro w1 rh_1 s1 g1; have k1 : Below w.heap.size w w1 := grown_below g1 (Nat.le_refl _) (by simp); have B1 : Below w.heap.size w w1 := k1; have okh_1 := hok.on k1)
      | ((with_reducible refine wpList_at ⟨some 4, _, _, _, _, _⟩ ?_); refine wpList_box_row rfl _ _ rfl ((⟨2, b, c, s⟩ : DvA).cs) rfl ?_; intro w2 ra_2 s2 g2; have k2 : Below w1.heap.size w1 w2 := grown_below g2 (Nat.le_refl _) (by simp); have B2 := B1.trans (k2.mono B1.size); have okh_2 := okh_1.on k2; have rh_2 := rh_1.on k2; clear okh_1 rh_1; have cra0 := ra_2.cell (j := 0) rfl; have cra1 := ra_2.cell (j := 1) rfl; have cra2 := ra_2.cell (j := 2) rfl; have cra3 := ra_2.cell (j := 3) rfl)
      | ((with_reducible refine wpList_at ⟨some 5, _, _, _, _, _⟩ ?_); refine wpList_box_row rfl _ _ rfl ((⟨cut, n, nz⟩ : DvF).cs) rfl ?_; intro w3 rf_3 s3 g3; have k3 : Below w2.heap.size w2 w3 := grown_below g3 (Nat.le_refl _) (by simp); have B3 := B2.trans (k3.mono B2.size); have okh_3 := okh_2.on k3; have rh_3 := rh_2.on k3; have ra_3 := ra_2.on k3; clear okh_2 rh_2 ra_2; have cra0 := ra_3.cell (j := 0) rfl; have cra1 := ra_3.cell (j := 1) rfl; have cra2 := ra_3.cell (j := 2) rfl; have cra3 := ra_3.cell (j := 3) rfl; have crf0 := rf_3.cell (j := 0) rfl; have crf1 := rf_3.cell (j := 1) rfl; have crf2 := rf_3.cell (j := 2) rfl)
      | (with_reducible refine wpList_alloc_row (o := ⟨some 6, _, _, _, _, _⟩) rfl _ rfl zeroH zero_hw ?_; intro w4 z6_4 s4 g4; have k4 : Below w3.heap.size w3 w4 := grown_below g4 (Nat.le_refl _) (by simp); have B4 := B3.trans (k4.mono B3.size); have okh_4 := okh_3.on k4; have rh_4 := rh_3.on k4; have ra_4 := ra_3.on k4; have rf_4 := rf_3.on k4; clear okh_3 rh_3 ra_3 rf_3; have cra0 := ra_4.cell (j := 0) rfl; have cra1 := ra_4.cell (j := 1) rfl; have cra2 := ra_4.cell (j := 2) rfl; have cra3 := ra_4.cell (j := 3) rfl; have crf0 := rf_4.cell (j := 0) rfl; have crf1 := rf_4.cell (j := 1) rfl; have crf2 := rf_4.cell (j := 2) rfl)
      | (with_reducible refine wpList_alloc_row (o := ⟨some 7, _, _, _, _, _⟩) rfl _ rfl zeroR zero_rs ?_; intro w5 z7_5 s5 g5; have k5 : Below w4.heap.size w4 w5 := grown_below g5 (Nat.le_refl _) (by simp); have B5 := B4.trans (k5.mono B4.size); have okh_5 := okh_4.on k5; have rh_5 := rh_4.on k5; have ra_5 := ra_4.on k5; have rf_5 := rf_4.on k5; have z6_5 := z6_4.on k5; clear okh_4 rh_4 ra_4 rf_4 z6_4; have cra0 := ra_5.cell (j := 0) rfl; have cra1 := ra_5.cell (j := 1) rfl; have cra2 := ra_5.cell (j := 2) rfl; have cra3 := ra_5.cell (j := 3) rfl; have crf0 := rf_5.cell (j := 0) rfl; have crf1 := rf_5.cell (j := 1) rfl; have crf2 := rf_5.cell (j := 2) rfl)
      | ((with_reducible refine wpList_at ⟨some 20, _, _, _, _, _⟩ ?_); refine wpList_valueG rfl _ (by exact exec_loadH _ _ rfl (w.heap.size) rfl h H16.out rh_5) ?_)
      | (with_reducible refine wpList_alloc_row (o := ⟨some 9, _, _, _, _, _⟩) rfl _ rfl zeroH zero_hw ?_; intro w6 r6 s6 g6)
      | ((with_reducible refine wpList_at ⟨none, .store _ (.tmp 9) _, _, _, _, _⟩ ?_); refine wpList_store_all rfl _ _ _ rfl w5.heap.size rfl _ _ r6 (h.cs) rfl (h.cs_one) (hw_zl H16.out) (hw_size H16.out) ?_; intro w7 ro_7 g7; have k7 : Below w5.heap.size w5 w7 := below_kept (grown_below g6 (Nat.le_refl _) (by simp)) g7 (Nat.le_of_lt s6) (by rintro q hq; cases hq; exact Nat.le_refl _); have B7 := B5.trans (k7.mono B5.size); have okh_7 := okh_5.on k7; have rh_7 := rh_5.on k7; have ra_7 := ra_5.on k7; have rf_7 := rf_5.on k7; have z6_7 := z6_5.on k7; have z7_7 := z7_5.on k7; clear okh_5 rh_5 ra_5 rf_5 z6_5 z7_5; have cra0 := ra_7.cell (j := 0) rfl; have cra1 := ra_7.cell (j := 1) rfl; have cra2 := ra_7.cell (j := 2) rfl; have cra3 := ra_7.cell (j := 3) rfl; have crf0 := rf_7.cell (j := 0) rfl; have crf1 := rf_7.cell (j := 1) rfl; have crf2 := rf_7.cell (j := 2) rfl; clear r6 g6 g7; have s7 := ro_7.lt)
      | (with_reducible refine wpList_alloc_row (o := ⟨some 10, _, _, _, _, _⟩) rfl _ rfl zeroR zero_rs ?_; intro w8 r8 s8 g8)
      | ((with_reducible refine wpList_at ⟨none, .store _ (.tmp 10) _, _, _, _, _⟩ ?_); refine wpList_store_all rfl _ _ _ rfl w7.heap.size rfl _ _ r8 (noR.cs) rfl (noR.cs_one) rfl (by kernel_rfl) ?_; intro w9 rr_9 g9; have k9 : Below w7.heap.size w7 w9 := below_kept (grown_below g8 (Nat.le_refl _) (by simp)) g9 (Nat.le_of_lt s8) (by rintro q hq; cases hq; exact Nat.le_refl _); have B9 := B7.trans (k9.mono B7.size); have okh_9 := okh_7.on k9; have rh_9 := rh_7.on k9; have ra_9 := ra_7.on k9; have rf_9 := rf_7.on k9; have z6_9 := z6_7.on k9; have z7_9 := z7_7.on k9; have ro_9 := ro_7.on k9; clear okh_7 rh_7 ra_7 rf_7 z6_7 z7_7 ro_7; have cra0 := ra_9.cell (j := 0) rfl; have cra1 := ra_9.cell (j := 1) rfl; have cra2 := ra_9.cell (j := 2) rfl; have cra3 := ra_9.cell (j := 3) rfl; have crf0 := rf_9.cell (j := 0) rfl; have crf1 := rf_9.cell (j := 1) rfl; have crf2 := rf_9.cell (j := 2) rfl; clear r8 g8 g9; have s9 := rr_9.lt))
    try simp only [Act.put, List.setIfInBounds_toArray, List.set_cons_zero, List.set_cons_succ]
    have b0 : Below w.heap.size w w9.drew := B9.drew
    have z0 : w9.drew.heap.size = w9.heap.size := rfl
    have ra1e := rh_9.drew
    have rr1e := rr_9.drew
    have z6e := z6_9.drew
    have z7e := z7_9.drew
    have lz6 := z6e.lt
    have lz7 := z7e.lt
    have hke : HwOK w9.drew h := okh_9
    refine wp_region_plan (fun w' => Row w' (w.heap.size) 64 (h).cs ∧ Row w' (w7.heap.size) 78 (noR).cs) (.take 0 <| .take 1 <| .one 2 <| .one 3 <| .take 4 <| .done) (by kernel_rfl) (by kernel_rfl) (by kernel_rfl) (fun _ _ _ _ _ h => h) ⟨ra1e, rr1e⟩ ?_
    repeat (refine plan_take _ rfl ?_; (first | ((with_reducible refine wpQuiet_at ⟨some 57, _, _, _, _, _⟩ ?_); refine wpQuiet_valueG rfl _ (by intro _ hS; exact exec_loadH _ _ rfl (w.heap.size) rfl (h) H16.out hS.1) (wpQuiet_nil ?_); simp only [Act.put, List.setIfInBounds_toArray, List.set_cons_zero, List.set_cons_succ]) | ((with_reducible refine wpQuiet_at ⟨some 58, _, _, _, _, _⟩ ?_); refine wpQuiet_valueG rfl _ (by intro _ hS; exact exec_loadR _ _ rfl (w7.heap.size) rfl (noR) hS.2) (wpQuiet_nil ?_); simp only [Act.put, List.setIfInBounds_toArray, List.set_cons_zero, List.set_cons_succ]) | (go_big_quiet_step ((intros; rfl)); refine wpQuiet_nil ?_)))
    refine plan_one _ rfl fun K hK => ?_
    refine step_store_all rfl _ _ _ rfl (w3.heap.size) rfl _ _ z6e ((h).cs) rfl (Hw.cs_one _) (hw_zl H16.out) (hw_size H16.out) ?_
    intro wu19 ru19 gu19
    have ra1u19 := ra1e.kept gu19 (by simp; omega)
    have rr1u19 := rr1e.kept gu19 (by simp; omega)
    have z7u19 := z7e.kept gu19 (by simp; omega)
    have hku19 := hke.apart HI1.out gu19 (by rintro (⟨h1, _⟩ | h1) <;> omega)
    have bu19 := below_kept b0 gu19 b0.size (by rintro q hq; cases hq; omega)
    refine hK _ _ ⟨ra1u19, rr1u19⟩ ?_
    clear hK K
    simp only [Act.put]
    refine plan_one _ rfl fun K hK => ?_
    refine step_store_all rfl _ _ _ rfl (w4.heap.size) rfl _ _ z7u19 ((noR).cs) rfl (DvR.cs_one _) rfl (by kernel_rfl) ?_
    intro wu20 ru20 gu20
    have ra1u20 := ra1u19.kept gu20 (by simp; omega)
    have rr1u20 := rr1u19.kept gu20 (by simp; omega)
    have z6su20 := ru19.kept gu20 (by simp; omega)
    have hku20 := hku19.apart HI1.out gu20 (by rintro (⟨h1, _⟩ | h1) <;> omega)
    have bu20 := below_kept bu19 gu20 bu19.size (by rintro q hq; cases hq; omega)
    refine hK _ _ ⟨ra1u20, rr1u20⟩ ?_
    clear hK K
    simp only [Act.put]
    repeat (refine plan_take _ rfl ?_; (first | ((with_reducible refine wpQuiet_at ⟨some 57, _, _, _, _, _⟩ ?_); refine wpQuiet_valueG rfl _ (by intro _ hS; exact exec_loadH _ _ rfl (w.heap.size) rfl (h) H16.out hS.1) (wpQuiet_nil ?_); simp only [Act.put, List.setIfInBounds_toArray, List.set_cons_zero, List.set_cons_succ]) | ((with_reducible refine wpQuiet_at ⟨some 58, _, _, _, _, _⟩ ?_); refine wpQuiet_valueG rfl _ (by intro _ hS; exact exec_loadR _ _ rfl (w7.heap.size) rfl (noR) hS.2) (wpQuiet_nil ?_); simp only [Act.put, List.setIfInBounds_toArray, List.set_cons_zero, List.set_cons_succ]) | (go_big_quiet_step ((intros; rfl)); refine wpQuiet_nil ?_)))
    refine plan_done ?_
    go_wp2_with fail
    refine bodyPost_ret (results_cells2 Try.results28 _ _ _ _ _ _ rfl rfl (load_hw z6su20 H16.out) (load_rs ru20)) rfl ⟨h, by rw [HE.out]; rfl, hku20, HI1.out.weak (fun q hq => by rcases hq with h1 | h1; exact .inl h1.2; exact .inr (by omega)), rfl, bu20⟩
  · subst hs0
    have hb : dvBad ⟨2, b, c, noB⟩ = false := by rw [dvBad_fuse (.inr rfl)]; simp
    unfold noB at *
    rw [dvRs_none (.inl rfl)]
    by_cases he : dvErr h.s ⟨2, b, c, ⟨#[]⟩⟩ = 0
    rotate_left
    · have HST := Lib.hid (dvSt_err (f := f) he)
      generalize dvSt h.s ⟨2, b, c, ⟨#[]⟩⟩ f = ST at *
      rw [dvErr_fuse hb (.inr rfl)] at *
      have hq : (fuErr (bk h.ps) b c != 0) = true := by simp only [bne_iff_ne, ne_eq]; exact he
      show Calls _ _ _ _ (GivesD X ST noR (fuErr (bk h.ps) b c) w)
      generalize fuErr (bk h.ps) b c = E at *
      generalize fuPulse (bk h.ps) b c f.cut = V at *
      obtain ⟨cut, n, nz⟩ := f
      clear hb hs he
      go_enter Try.func28, Try.ntmps28
      go_wp2_with (first
        | ((with_reducible refine wpList_at ⟨some 3, _, _, _, _, _⟩ ?_); refine wpList_box_row rfl _ _ rfl (h.cs) rfl ?_; intro w1 rh_1 s1 g1; have k1 : Below w.heap.size w w1 := grown_below g1 (Nat.le_refl _) (by simp); have B1 : Below w.heap.size w w1 := k1; have okh_1 := hok.on k1)
        | ((with_reducible refine wpList_at ⟨some 4, _, _, _, _, _⟩ ?_); refine wpList_box_row rfl _ _ rfl ((⟨2, b, c, ⟨#[]⟩⟩ : DvA).cs) rfl ?_; intro w2 ra_2 s2 g2; have k2 : Below w1.heap.size w1 w2 := grown_below g2 (Nat.le_refl _) (by simp); have B2 := B1.trans (k2.mono B1.size); have okh_2 := okh_1.on k2; have rh_2 := rh_1.on k2; clear okh_1 rh_1; have cra0 := ra_2.cell (j := 0) rfl; have cra1 := ra_2.cell (j := 1) rfl; have cra2 := ra_2.cell (j := 2) rfl; have cra3 := ra_2.cell (j := 3) rfl)
        | ((with_reducible refine wpList_at ⟨some 5, _, _, _, _, _⟩ ?_); refine wpList_box_row rfl _ _ rfl ((⟨cut, n, nz⟩ : DvF).cs) rfl ?_; intro w3 rf_3 s3 g3; have k3 : Below w2.heap.size w2 w3 := grown_below g3 (Nat.le_refl _) (by simp); have B3 := B2.trans (k3.mono B2.size); have okh_3 := okh_2.on k3; have rh_3 := rh_2.on k3; have ra_3 := ra_2.on k3; clear okh_2 rh_2 ra_2; have cra0 := ra_3.cell (j := 0) rfl; have cra1 := ra_3.cell (j := 1) rfl; have cra2 := ra_3.cell (j := 2) rfl; have cra3 := ra_3.cell (j := 3) rfl; have crf0 := rf_3.cell (j := 0) rfl; have crf1 := rf_3.cell (j := 1) rfl; have crf2 := rf_3.cell (j := 2) rfl)
        | (with_reducible refine wpList_alloc_row (o := ⟨some 6, _, _, _, _, _⟩) rfl _ rfl zeroH zero_hw ?_; intro w4 z6_4 s4 g4; have k4 : Below w3.heap.size w3 w4 := grown_below g4 (Nat.le_refl _) (by simp); have B4 := B3.trans (k4.mono B3.size); have okh_4 := okh_3.on k4; have rh_4 := rh_3.on k4; have ra_4 := ra_3.on k4; have rf_4 := rf_3.on k4; clear okh_3 rh_3 ra_3 rf_3; have cra0 := ra_4.cell (j := 0) rfl; have cra1 := ra_4.cell (j := 1) rfl; have cra2 := ra_4.cell (j := 2) rfl; have cra3 := ra_4.cell (j := 3) rfl; have crf0 := rf_4.cell (j := 0) rfl; have crf1 := rf_4.cell (j := 1) rfl; have crf2 := rf_4.cell (j := 2) rfl)
        | (with_reducible refine wpList_alloc_row (o := ⟨some 7, _, _, _, _, _⟩) rfl _ rfl zeroR zero_rs ?_; intro w5 z7_5 s5 g5; have k5 : Below w4.heap.size w4 w5 := grown_below g5 (Nat.le_refl _) (by simp); have B5 := B4.trans (k5.mono B4.size); have okh_5 := okh_4.on k5; have rh_5 := rh_4.on k5; have ra_5 := ra_4.on k5; have rf_5 := rf_4.on k5; have z6_5 := z6_4.on k5; clear okh_4 rh_4 ra_4 rf_4 z6_4; have cra0 := ra_5.cell (j := 0) rfl; have cra1 := ra_5.cell (j := 1) rfl; have cra2 := ra_5.cell (j := 2) rfl; have cra3 := ra_5.cell (j := 3) rfl; have crf0 := rf_5.cell (j := 0) rfl; have crf1 := rf_5.cell (j := 1) rfl; have crf2 := rf_5.cell (j := 2) rfl)
        | ((with_reducible refine wpList_at ⟨some 20, _, _, _, _, _⟩ ?_); refine wpList_valueG rfl _ (by exact exec_loadH _ _ rfl (w.heap.size) rfl h H16.out rh_5) ?_)
        | (with_reducible refine wpList_alloc_row (o := ⟨some 9, _, _, _, _, _⟩) rfl _ rfl zeroH zero_hw ?_; intro w6 r6 s6 g6)
        | ((with_reducible refine wpList_at ⟨none, .store _ (.tmp 9) _, _, _, _, _⟩ ?_); refine wpList_store_all rfl _ _ _ rfl w5.heap.size rfl _ _ r6 (h.cs) rfl (h.cs_one) (hw_zl H16.out) (hw_size H16.out) ?_; intro w7 ro_7 g7; have k7 : Below w5.heap.size w5 w7 := below_kept (grown_below g6 (Nat.le_refl _) (by simp)) g7 (Nat.le_of_lt s6) (by rintro q hq; cases hq; exact Nat.le_refl _); have B7 := B5.trans (k7.mono B5.size); have okh_7 := okh_5.on k7; have rh_7 := rh_5.on k7; have ra_7 := ra_5.on k7; have rf_7 := rf_5.on k7; have z6_7 := z6_5.on k7; have z7_7 := z7_5.on k7; clear okh_5 rh_5 ra_5 rf_5 z6_5 z7_5; have cra0 := ra_7.cell (j := 0) rfl; have cra1 := ra_7.cell (j := 1) rfl; have cra2 := ra_7.cell (j := 2) rfl; have cra3 := ra_7.cell (j := 3) rfl; have crf0 := rf_7.cell (j := 0) rfl; have crf1 := rf_7.cell (j := 1) rfl; have crf2 := rf_7.cell (j := 2) rfl; clear r6 g6 g7; have s7 := ro_7.lt)
        | (with_reducible refine wpList_alloc_row (o := ⟨some 10, _, _, _, _, _⟩) rfl _ rfl zeroR zero_rs ?_; intro w8 r8 s8 g8)
        | ((with_reducible refine wpList_at ⟨none, .store _ (.tmp 10) _, _, _, _, _⟩ ?_); refine wpList_store_all rfl _ _ _ rfl w7.heap.size rfl _ _ r8 (noR.cs) rfl (noR.cs_one) rfl (by kernel_rfl) ?_; intro w9 rr_9 g9; have k9 : Below w7.heap.size w7 w9 := below_kept (grown_below g8 (Nat.le_refl _) (by simp)) g9 (Nat.le_of_lt s8) (by rintro q hq; cases hq; exact Nat.le_refl _); have B9 := B7.trans (k9.mono B7.size); have okh_9 := okh_7.on k9; have rh_9 := rh_7.on k9; have ra_9 := ra_7.on k9; have rf_9 := rf_7.on k9; have z6_9 := z6_7.on k9; have z7_9 := z7_7.on k9; have ro_9 := ro_7.on k9; clear okh_7 rh_7 ra_7 rf_7 z6_7 z7_7 ro_7; have cra0 := ra_9.cell (j := 0) rfl; have cra1 := ra_9.cell (j := 1) rfl; have cra2 := ra_9.cell (j := 2) rfl; have cra3 := ra_9.cell (j := 3) rfl; have crf0 := rf_9.cell (j := 0) rfl; have crf1 := rf_9.cell (j := 1) rfl; have crf2 := rf_9.cell (j := 2) rfl; clear r8 g8 g9; have s9 := rr_9.lt)
        | ((with_reducible refine wpList_at ⟨some 61, _, _, _, _, _⟩ ?_); refine wpList_valueG rfl _ (by exact exec_loadHF _ _ rfl (w.heap.size) rfl h rh_9) ?_))
      refine ((HC _ okh_9.1).out).mono ?_
      rintro e w10 ⟨A10, n10, c10, ps10, rfl, ok10, in10, hb10, h10⟩
      have B10 := B9.trans (h10.mono B9.size)
      have okh_10 := okh_9.on h10
      have rh_10 := rh_9.on h10
      have ra_10 := ra_9.on h10
      have rf_10 := rf_9.on h10
      have z6_10 := z6_9.on h10
      have z7_10 := z7_9.on h10
      have ro_10 := ro_9.on h10
      have rr_10 := rr_9.on h10
      clear okh_9 rh_9 ra_9 rf_9 z6_9 z7_9 ro_9 rr_9
      have cra0 := ra_10.cell (j := 0) rfl
      have cra1 := ra_10.cell (j := 1) rfl
      have cra2 := ra_10.cell (j := 2) rfl
      have cra3 := ra_10.cell (j := 3) rfl
      have crf0 := rf_10.cell (j := 0) rfl
      have crf1 := rf_10.cell (j := 1) rfl
      have crf2 := rf_10.cell (j := 2) rfl
      unfold fuv
      have HBK := Lib.hid hb10
      clear hb10
      go_wp2_with (first
        | (with_reducible refine wpList_alloc_row (o := ⟨some 13, _, _, _, _, _⟩) rfl _ rfl [.slice none 0 0] (by kernel_rfl) ?_; intro w11 r11 s11 g11)
        | ((with_reducible refine wpList_at ⟨none, .store _ (.tmp 13) _, _, _, _, _⟩ ?_); refine wpList_store_all rfl _ _ _ rfl w10.heap.size rfl _ _ r11 [.slice A10 n10 c10] rfl (slice_one _ _ _) rfl (by kernel_rfl) ?_; intro w12 rv_12 g12; have k12 : Below w10.heap.size w10 w12 := below_kept (grown_below g11 (Nat.le_refl _) (by simp)) g12 (Nat.le_of_lt s11) (by rintro q hq; cases hq; exact Nat.le_refl _); have B12 := B10.trans (k12.mono B10.size); have okh_12 := okh_10.on k12; have rh_12 := rh_10.on k12; have ra_12 := ra_10.on k12; have rf_12 := rf_10.on k12; have z6_12 := z6_10.on k12; have z7_12 := z7_10.on k12; have ro_12 := ro_10.on k12; have rr_12 := rr_10.on k12; have nok_12 := ok10.on k12; clear okh_10 rh_10 ra_10 rf_10 z6_10 z7_10 ro_10 rr_10; have cra0 := ra_12.cell (j := 0) rfl; have cra1 := ra_12.cell (j := 1) rfl; have cra2 := ra_12.cell (j := 2) rfl; have cra3 := ra_12.cell (j := 3) rfl; have crf0 := rf_12.cell (j := 0) rfl; have crf1 := rf_12.cell (j := 1) rfl; have crf2 := rf_12.cell (j := 2) rfl; clear r11 g11 g12))
      try simp only [Act.put, List.setIfInBounds_toArray, List.set_cons_zero, List.set_cons_succ]
      have b0 : Below w.heap.size w w12.drew := B12.drew
      have z0 : w12.drew.heap.size = w12.heap.size := rfl
      have ra1e := rh_12.drew
      have rr1e := rr_12.drew
      have z6e := z6_12.drew
      have z7e := z7_12.drew
      have lz6 := z6e.lt
      have lz7 := z7e.lt
      have hke : HwOK w12.drew h := okh_12
      refine wp_region_plan (fun w' => Row w' (w.heap.size) 64 (h).cs ∧ Row w' (w7.heap.size) 78 (noR).cs) (.take 0 <| .take 1 <| .take 2 <| .one 3 <| .one 4 <| .take 5 <| .done) (by kernel_rfl) (by kernel_rfl) (by kernel_rfl) (fun _ _ _ _ _ h => h) ⟨ra1e, rr1e⟩ ?_
      repeat (refine plan_take _ rfl ?_; (first | ((with_reducible refine wpQuiet_at ⟨some 73, _, _, _, _, _⟩ ?_); refine wpQuiet_valueG rfl _ (by intro _ hS; exact exec_loadH _ _ rfl (w.heap.size) rfl (h) H16.out hS.1) (wpQuiet_nil ?_); simp only [Act.put, List.setIfInBounds_toArray, List.set_cons_zero, List.set_cons_succ]) | ((with_reducible refine wpQuiet_at ⟨some 74, _, _, _, _, _⟩ ?_); refine wpQuiet_valueG rfl _ (by intro _ hS; exact exec_loadR _ _ rfl (w7.heap.size) rfl (noR) hS.2) (wpQuiet_nil ?_); simp only [Act.put, List.setIfInBounds_toArray, List.set_cons_zero, List.set_cons_succ]) | (go_big_quiet_step ((intros; rfl)); refine wpQuiet_nil ?_)))
      refine plan_one _ rfl fun K hK => ?_
      refine step_store_all rfl _ _ _ rfl (w3.heap.size) rfl _ _ z6e ((h).cs) rfl (Hw.cs_one _) (hw_zl H16.out) (hw_size H16.out) ?_
      intro wu21 ru21 gu21
      have ra1u21 := ra1e.kept gu21 (by simp; omega)
      have rr1u21 := rr1e.kept gu21 (by simp; omega)
      have z7u21 := z7e.kept gu21 (by simp; omega)
      have hku21 := hke.apart HI1.out gu21 (by rintro (⟨h1, _⟩ | h1) <;> omega)
      have bu21 := below_kept b0 gu21 b0.size (by rintro q hq; cases hq; omega)
      refine hK _ _ ⟨ra1u21, rr1u21⟩ ?_
      clear hK K
      simp only [Act.put]
      refine plan_one _ rfl fun K hK => ?_
      refine step_store_all rfl _ _ _ rfl (w4.heap.size) rfl _ _ z7u21 ((noR).cs) rfl (DvR.cs_one _) rfl (by kernel_rfl) ?_
      intro wu22 ru22 gu22
      have ra1u22 := ra1u21.kept gu22 (by simp; omega)
      have rr1u22 := rr1u21.kept gu22 (by simp; omega)
      have z6su22 := ru21.kept gu22 (by simp; omega)
      have hku22 := hku21.apart HI1.out gu22 (by rintro (⟨h1, _⟩ | h1) <;> omega)
      have bu22 := below_kept bu21 gu22 bu21.size (by rintro q hq; cases hq; omega)
      refine hK _ _ ⟨ra1u22, rr1u22⟩ ?_
      clear hK K
      simp only [Act.put]
      repeat (refine plan_take _ rfl ?_; (first | ((with_reducible refine wpQuiet_at ⟨some 73, _, _, _, _, _⟩ ?_); refine wpQuiet_valueG rfl _ (by intro _ hS; exact exec_loadH _ _ rfl (w.heap.size) rfl (h) H16.out hS.1) (wpQuiet_nil ?_); simp only [Act.put, List.setIfInBounds_toArray, List.set_cons_zero, List.set_cons_succ]) | ((with_reducible refine wpQuiet_at ⟨some 74, _, _, _, _, _⟩ ?_); refine wpQuiet_valueG rfl _ (by intro _ hS; exact exec_loadR _ _ rfl (w7.heap.size) rfl (noR) hS.2) (wpQuiet_nil ?_); simp only [Act.put, List.setIfInBounds_toArray, List.set_cons_zero, List.set_cons_succ]) | (go_big_quiet_step ((intros; rfl)); refine wpQuiet_nil ?_)))
      refine plan_done ?_
      go_wp2_with fail
      refine bodyPost_ret (results_cells2 Try.results28 _ _ _ _ _ _ rfl rfl (load_hw z6su22 H16.out) (load_rs ru22)) rfl ⟨h, rfl, hku22, HI1.out.weak (fun q hq => by rcases hq with h1 | h1; exact .inl h1.2; exact .inr (by omega)), by rw [HST.out], bu22⟩
    · rw [he]
      rw [dvErr_fuse hb (.inr rfl)] at he
      have he' : fuErr (bk h.ps) b c = 0 := he
      rw [he'] at HC
      rw [dvSt_pulse hb rfl]
      show Calls _ _ _ _ (GivesD X ⟨fuPulse (bk h.ps) b c f.cut, h.fs, h.rt⟩ noR 0 w)
      generalize hV : fuPulse (bk h.ps) b c f.cut = V at *
      obtain ⟨cut, n, nz⟩ := f
      clear hb hs he he' hV
      cases cut with
      | true =>
        go_enter Try.func28, Try.ntmps28
        go_wp2_with (first
          | ((with_reducible refine wpList_at ⟨some 3, _, _, _, _, _⟩ ?_); refine wpList_box_row rfl _ _ rfl (h.cs) rfl ?_; intro w1 rh_1 s1 g1; have k1 : Below w.heap.size w w1 := grown_below g1 (Nat.le_refl _) (by simp); have B1 : Below w.heap.size w w1 := k1; have okh_1 := hok.on k1)
          | ((with_reducible refine wpList_at ⟨some 4, _, _, _, _, _⟩ ?_); refine wpList_box_row rfl _ _ rfl ((⟨2, b, c, ⟨#[]⟩⟩ : DvA).cs) rfl ?_; intro w2 ra_2 s2 g2; have k2 : Below w1.heap.size w1 w2 := grown_below g2 (Nat.le_refl _) (by simp); have B2 := B1.trans (k2.mono B1.size); have okh_2 := okh_1.on k2; have rh_2 := rh_1.on k2; clear okh_1 rh_1; have cra0 := ra_2.cell (j := 0) rfl; have cra1 := ra_2.cell (j := 1) rfl; have cra2 := ra_2.cell (j := 2) rfl; have cra3 := ra_2.cell (j := 3) rfl)
          | ((with_reducible refine wpList_at ⟨some 5, _, _, _, _, _⟩ ?_); refine wpList_box_row rfl _ _ rfl ((⟨true, n, nz⟩ : DvF).cs) rfl ?_; intro w3 rf_3 s3 g3; have k3 : Below w2.heap.size w2 w3 := grown_below g3 (Nat.le_refl _) (by simp); have B3 := B2.trans (k3.mono B2.size); have okh_3 := okh_2.on k3; have rh_3 := rh_2.on k3; have ra_3 := ra_2.on k3; clear okh_2 rh_2 ra_2; have cra0 := ra_3.cell (j := 0) rfl; have cra1 := ra_3.cell (j := 1) rfl; have cra2 := ra_3.cell (j := 2) rfl; have cra3 := ra_3.cell (j := 3) rfl; have crf0 := rf_3.cell (j := 0) rfl; have crf1 := rf_3.cell (j := 1) rfl; have crf2 := rf_3.cell (j := 2) rfl)
          | (with_reducible refine wpList_alloc_row (o := ⟨some 6, _, _, _, _, _⟩) rfl _ rfl zeroH zero_hw ?_; intro w4 z6_4 s4 g4; have k4 : Below w3.heap.size w3 w4 := grown_below g4 (Nat.le_refl _) (by simp); have B4 := B3.trans (k4.mono B3.size); have okh_4 := okh_3.on k4; have rh_4 := rh_3.on k4; have ra_4 := ra_3.on k4; have rf_4 := rf_3.on k4; clear okh_3 rh_3 ra_3 rf_3; have cra0 := ra_4.cell (j := 0) rfl; have cra1 := ra_4.cell (j := 1) rfl; have cra2 := ra_4.cell (j := 2) rfl; have cra3 := ra_4.cell (j := 3) rfl; have crf0 := rf_4.cell (j := 0) rfl; have crf1 := rf_4.cell (j := 1) rfl; have crf2 := rf_4.cell (j := 2) rfl)
          | (with_reducible refine wpList_alloc_row (o := ⟨some 7, _, _, _, _, _⟩) rfl _ rfl zeroR zero_rs ?_; intro w5 z7_5 s5 g5; have k5 : Below w4.heap.size w4 w5 := grown_below g5 (Nat.le_refl _) (by simp); have B5 := B4.trans (k5.mono B4.size); have okh_5 := okh_4.on k5; have rh_5 := rh_4.on k5; have ra_5 := ra_4.on k5; have rf_5 := rf_4.on k5; have z6_5 := z6_4.on k5; clear okh_4 rh_4 ra_4 rf_4 z6_4; have cra0 := ra_5.cell (j := 0) rfl; have cra1 := ra_5.cell (j := 1) rfl; have cra2 := ra_5.cell (j := 2) rfl; have cra3 := ra_5.cell (j := 3) rfl; have crf0 := rf_5.cell (j := 0) rfl; have crf1 := rf_5.cell (j := 1) rfl; have crf2 := rf_5.cell (j := 2) rfl)
          | ((with_reducible refine wpList_at ⟨some 20, _, _, _, _, _⟩ ?_); refine wpList_valueG rfl _ (by exact exec_loadH _ _ rfl (w.heap.size) rfl h H16.out rh_5) ?_)
          | (with_reducible refine wpList_alloc_row (o := ⟨some 9, _, _, _, _, _⟩) rfl _ rfl zeroH zero_hw ?_; intro w6 r6 s6 g6)
          | ((with_reducible refine wpList_at ⟨none, .store _ (.tmp 9) _, _, _, _, _⟩ ?_); refine wpList_store_all rfl _ _ _ rfl w5.heap.size rfl _ _ r6 (h.cs) rfl (h.cs_one) (hw_zl H16.out) (hw_size H16.out) ?_; intro w7 ro_7 g7; have k7 : Below w5.heap.size w5 w7 := below_kept (grown_below g6 (Nat.le_refl _) (by simp)) g7 (Nat.le_of_lt s6) (by rintro q hq; cases hq; exact Nat.le_refl _); have B7 := B5.trans (k7.mono B5.size); have okh_7 := okh_5.on k7; have rh_7 := rh_5.on k7; have ra_7 := ra_5.on k7; have rf_7 := rf_5.on k7; have z6_7 := z6_5.on k7; have z7_7 := z7_5.on k7; clear okh_5 rh_5 ra_5 rf_5 z6_5 z7_5; have cra0 := ra_7.cell (j := 0) rfl; have cra1 := ra_7.cell (j := 1) rfl; have cra2 := ra_7.cell (j := 2) rfl; have cra3 := ra_7.cell (j := 3) rfl; have crf0 := rf_7.cell (j := 0) rfl; have crf1 := rf_7.cell (j := 1) rfl; have crf2 := rf_7.cell (j := 2) rfl; clear r6 g6 g7; have s7 := ro_7.lt)
          | (with_reducible refine wpList_alloc_row (o := ⟨some 10, _, _, _, _, _⟩) rfl _ rfl zeroR zero_rs ?_; intro w8 r8 s8 g8)
          | ((with_reducible refine wpList_at ⟨none, .store _ (.tmp 10) _, _, _, _, _⟩ ?_); refine wpList_store_all rfl _ _ _ rfl w7.heap.size rfl _ _ r8 (noR.cs) rfl (noR.cs_one) rfl (by kernel_rfl) ?_; intro w9 rr_9 g9; have k9 : Below w7.heap.size w7 w9 := below_kept (grown_below g8 (Nat.le_refl _) (by simp)) g9 (Nat.le_of_lt s8) (by rintro q hq; cases hq; exact Nat.le_refl _); have B9 := B7.trans (k9.mono B7.size); have okh_9 := okh_7.on k9; have rh_9 := rh_7.on k9; have ra_9 := ra_7.on k9; have rf_9 := rf_7.on k9; have z6_9 := z6_7.on k9; have z7_9 := z7_7.on k9; have ro_9 := ro_7.on k9; clear okh_7 rh_7 ra_7 rf_7 z6_7 z7_7 ro_7; have cra0 := ra_9.cell (j := 0) rfl; have cra1 := ra_9.cell (j := 1) rfl; have cra2 := ra_9.cell (j := 2) rfl; have cra3 := ra_9.cell (j := 3) rfl; have crf0 := rf_9.cell (j := 0) rfl; have crf1 := rf_9.cell (j := 1) rfl; have crf2 := rf_9.cell (j := 2) rfl; clear r8 g8 g9; have s9 := rr_9.lt)
          | ((with_reducible refine wpList_at ⟨some 61, _, _, _, _, _⟩ ?_); refine wpList_valueG rfl _ (by exact exec_loadHF _ _ rfl (w.heap.size) rfl h rh_9) ?_))
        refine ((HC _ okh_9.1).out).mono ?_
        rintro e w10 ⟨A10, n10, c10, ps10, rfl, ok10, in10, hb10, h10⟩
        have B10 := B9.trans (h10.mono B9.size)
        have okh_10 := okh_9.on h10
        have rh_10 := rh_9.on h10
        have ra_10 := ra_9.on h10
        have rf_10 := rf_9.on h10
        have z6_10 := z6_9.on h10
        have z7_10 := z7_9.on h10
        have ro_10 := ro_9.on h10
        have rr_10 := rr_9.on h10
        clear okh_9 rh_9 ra_9 rf_9 z6_9 z7_9 ro_9 rr_9
        have cra0 := ra_10.cell (j := 0) rfl
        have cra1 := ra_10.cell (j := 1) rfl
        have cra2 := ra_10.cell (j := 2) rfl
        have cra3 := ra_10.cell (j := 3) rfl
        have crf0 := rf_10.cell (j := 0) rfl
        have crf1 := rf_10.cell (j := 1) rfl
        have crf2 := rf_10.cell (j := 2) rfl
        unfold fuv
        have HBK := Lib.hid hb10
        clear hb10
        go_wp2_with (first
          | (with_reducible refine wpList_alloc_row (o := ⟨some 13, _, _, _, _, _⟩) rfl _ rfl [.slice none 0 0] (by kernel_rfl) ?_; intro w11 r11 s11 g11)
          | ((with_reducible refine wpList_at ⟨none, .store _ (.tmp 13) _, _, _, _, _⟩ ?_); refine wpList_store_all rfl _ _ _ rfl w10.heap.size rfl _ _ r11 [.slice A10 n10 c10] rfl (slice_one _ _ _) rfl (by kernel_rfl) ?_; intro w12 rv_12 g12; have k12 : Below w10.heap.size w10 w12 := below_kept (grown_below g11 (Nat.le_refl _) (by simp)) g12 (Nat.le_of_lt s11) (by rintro q hq; cases hq; exact Nat.le_refl _); have B12 := B10.trans (k12.mono B10.size); have okh_12 := okh_10.on k12; have rh_12 := rh_10.on k12; have ra_12 := ra_10.on k12; have rf_12 := rf_10.on k12; have z6_12 := z6_10.on k12; have z7_12 := z7_10.on k12; have ro_12 := ro_10.on k12; have rr_12 := rr_10.on k12; have nok_12 := ok10.on k12; clear okh_10 rh_10 ra_10 rf_10 z6_10 z7_10 ro_10 rr_10; have cra0 := ra_12.cell (j := 0) rfl; have cra1 := ra_12.cell (j := 1) rfl; have cra2 := ra_12.cell (j := 2) rfl; have cra3 := ra_12.cell (j := 3) rfl; have crf0 := rf_12.cell (j := 0) rfl; have crf1 := rf_12.cell (j := 1) rfl; have crf2 := rf_12.cell (j := 2) rfl; clear r11 g11 g12)
          | ((with_reducible refine wpList_at ⟨some 76, _, _, _, _, _⟩ ?_); refine wpList_valueG rfl _ (by exact exec_load _ 40 _ rfl ⟨w10.heap.size, 0, none⟩ rfl [.slice A10 n10 c10] rv_12.cells _ Try.underlying40 rfl (by kernel_rfl)) ?_)
          | ((with_reducible refine wpList_at ⟨none, .store _ (.tmp 77) _, _, _, _, _⟩ ?_); refine wpList_store_part rfl _ _ _ rfl (w5.heap.size) 0 rfl _ _ ro_12 [.slice A10 n10 c10] rfl (slice_one _ _ _) (by show 0 + 1 ≤ _ + 2; omega) (by kernel_rfl) ?_; intro wP ro9 gP; have lro0 := ro_12.lt; have lrr0 := rr_12.lt; have lz60 := z6_12.lt; have lz70 := z7_12.lt; have rr_gP := rr_12.kept gP (by simp; omega); have rf_gP := rf_12.kept gP (by simp; omega); have z6_gP := z6_12.kept gP (by simp; omega); have z7_gP := z7_12.kept gP (by simp; omega); have b_gP := below_kept B12 gP B12.size (by rintro q hq; cases hq; omega); have crf0 := rf_gP.cell (j := 0) rfl; have crf1 := rf_gP.cell (j := 1) rfl; have crf2 := rf_gP.cell (j := 2) rfl)
          | ((with_reducible refine wpList_at ⟨none, .store _ (.tmp 10) _, _, _, _, _⟩ ?_); refine wpList_store_all rfl _ _ _ rfl (w7.heap.size) rfl _ _ rr_gP noR.cs rfl (DvR.cs_one _) rfl (by kernel_rfl) ?_; intro wQ rr8 gQ; have z98 := gP.size; have ro_gQ := ro9.kept gQ (by simp; omega); have z6_gQ := z6_gP.kept gQ (by simp; omega); have z7_gQ := z7_gP.kept gQ (by simp; omega); have b_gQ := below_kept b_gP gQ b_gP.size (by rintro q hq; cases hq; omega)))
        have z9 := gP.size
        have hk0 : HwOK w12 (⟨A10, n10, c10, ps10, h.B, h.m, h.d, h.fs, h.rt⟩ : Hw) := ⟨nok_12, okh_12.2.1, H16.out⟩
        have hi0 : HwIn (fun q => (q < w.heap.size ∧ X q) ∨ w9.heap.size ≤ q) (⟨A10, n10, c10, ps10, h.B, h.m, h.d, h.fs, h.rt⟩ : Hw) := ⟨in10, HIX.out.2.weak (fun _ h => .inl h)⟩
        have hk9 := hk0.apart hi0 gP (by rintro (⟨h1, _⟩ | h1) <;> omega)
        have z8 := gQ.size
        have hk8 := hk9.apart hi0 gQ (by rintro (⟨h1, _⟩ | h1) <;> omega)
        try simp only [Act.put, List.setIfInBounds_toArray, List.set_cons_zero, List.set_cons_succ]
        have b0 : Below w.heap.size w wQ.drew := b_gQ.drew
        have z0 : wQ.drew.heap.size = wQ.heap.size := rfl
        have ra1e := ro_gQ.drew
        have rr1e := rr8.drew
        have z6e := z6_gQ.drew
        have z7e := z7_gQ.drew
        have lz6 := z6e.lt
        have lz7 := z7e.lt
        have hke : HwOK wQ.drew (⟨A10, n10, c10, ps10, h.B, h.m, h.d, h.fs, h.rt⟩ : Hw) := hk8
        refine wp_region_plan (fun w' => Row w' (w5.heap.size) 64 ((⟨A10, n10, c10, ps10, h.B, h.m, h.d, h.fs, h.rt⟩ : Hw)).cs ∧ Row w' (w7.heap.size) 78 (noR).cs) (.take 0 <| .take 1 <| .one 2 <| .one 3 <| .take 4 <| .done) (by kernel_rfl) (by kernel_rfl) (by kernel_rfl) (fun _ _ _ _ _ h => h) ⟨ra1e, rr1e⟩ ?_
        repeat (refine plan_take _ rfl ?_; (first | ((with_reducible refine wpQuiet_at ⟨some 139, _, _, _, _, _⟩ ?_); refine wpQuiet_valueG rfl _ (by intro _ hS; exact exec_loadH _ _ rfl (w5.heap.size) rfl ((⟨A10, n10, c10, ps10, h.B, h.m, h.d, h.fs, h.rt⟩ : Hw)) H16.out hS.1) (wpQuiet_nil ?_); simp only [Act.put, List.setIfInBounds_toArray, List.set_cons_zero, List.set_cons_succ]) | ((with_reducible refine wpQuiet_at ⟨some 140, _, _, _, _, _⟩ ?_); refine wpQuiet_valueG rfl _ (by intro _ hS; exact exec_loadR _ _ rfl (w7.heap.size) rfl (noR) hS.2) (wpQuiet_nil ?_); simp only [Act.put, List.setIfInBounds_toArray, List.set_cons_zero, List.set_cons_succ]) | (go_big_quiet_step ((intros; rfl)); refine wpQuiet_nil ?_)))
        refine plan_one _ rfl fun K hK => ?_
        refine step_store_all rfl _ _ _ rfl (w3.heap.size) rfl _ _ z6e (((⟨A10, n10, c10, ps10, h.B, h.m, h.d, h.fs, h.rt⟩ : Hw)).cs) rfl (Hw.cs_one _) (hw_zl H16.out) (hw_size H16.out) ?_
        intro wu23 ru23 gu23
        have ra1u23 := ra1e.kept gu23 (by simp; omega)
        have rr1u23 := rr1e.kept gu23 (by simp; omega)
        have z7u23 := z7e.kept gu23 (by simp; omega)
        have hku23 := hke.apart hi0 gu23 (by rintro (⟨h1, _⟩ | h1) <;> omega)
        have bu23 := below_kept b0 gu23 b0.size (by rintro q hq; cases hq; omega)
        refine hK _ _ ⟨ra1u23, rr1u23⟩ ?_
        clear hK K
        simp only [Act.put]
        refine plan_one _ rfl fun K hK => ?_
        refine step_store_all rfl _ _ _ rfl (w4.heap.size) rfl _ _ z7u23 ((noR).cs) rfl (DvR.cs_one _) rfl (by kernel_rfl) ?_
        intro wu24 ru24 gu24
        have ra1u24 := ra1u23.kept gu24 (by simp; omega)
        have rr1u24 := rr1u23.kept gu24 (by simp; omega)
        have z6su24 := ru23.kept gu24 (by simp; omega)
        have hku24 := hku23.apart hi0 gu24 (by rintro (⟨h1, _⟩ | h1) <;> omega)
        have bu24 := below_kept bu23 gu24 bu23.size (by rintro q hq; cases hq; omega)
        refine hK _ _ ⟨ra1u24, rr1u24⟩ ?_
        clear hK K
        simp only [Act.put]
        repeat (refine plan_take _ rfl ?_; (first | ((with_reducible refine wpQuiet_at ⟨some 139, _, _, _, _, _⟩ ?_); refine wpQuiet_valueG rfl _ (by intro _ hS; exact exec_loadH _ _ rfl (w5.heap.size) rfl ((⟨A10, n10, c10, ps10, h.B, h.m, h.d, h.fs, h.rt⟩ : Hw)) H16.out hS.1) (wpQuiet_nil ?_); simp only [Act.put, List.setIfInBounds_toArray, List.set_cons_zero, List.set_cons_succ]) | ((with_reducible refine wpQuiet_at ⟨some 140, _, _, _, _, _⟩ ?_); refine wpQuiet_valueG rfl _ (by intro _ hS; exact exec_loadR _ _ rfl (w7.heap.size) rfl (noR) hS.2) (wpQuiet_nil ?_); simp only [Act.put, List.setIfInBounds_toArray, List.set_cons_zero, List.set_cons_succ]) | (go_big_quiet_step ((intros; rfl)); refine wpQuiet_nil ?_)))
        refine plan_done ?_
        go_wp2_with fail
        refine bodyPost_ret (results_cells2 Try.results28 _ _ _ _ _ _ rfl rfl (load_hw z6su24 H16.out) (load_rs ru24)) rfl ⟨(⟨A10, n10, c10, ps10, h.B, h.m, h.d, h.fs, h.rt⟩ : Hw), rfl, hku24, hi0.weak (fun q hq => by rcases hq with h1 | h1; exact .inl h1.2; exact .inr (by omega)), by show DvS.mk _ _ _ = _; rw [HBK.out], bu24⟩
      | false =>
        go_enter Try.func28, Try.ntmps28
        go_wp2_with (first
          | ((with_reducible refine wpList_at ⟨some 3, _, _, _, _, _⟩ ?_); refine wpList_box_row rfl _ _ rfl (h.cs) rfl ?_; intro w1 rh_1 s1 g1; have k1 : Below w.heap.size w w1 := grown_below g1 (Nat.le_refl _) (by simp); have B1 : Below w.heap.size w w1 := k1; have okh_1 := hok.on k1)
          | ((with_reducible refine wpList_at ⟨some 4, _, _, _, _, _⟩ ?_); refine wpList_box_row rfl _ _ rfl ((⟨2, b, c, ⟨#[]⟩⟩ : DvA).cs) rfl ?_; intro w2 ra_2 s2 g2; have k2 : Below w1.heap.size w1 w2 := grown_below g2 (Nat.le_refl _) (by simp); have B2 := B1.trans (k2.mono B1.size); have okh_2 := okh_1.on k2; have rh_2 := rh_1.on k2; clear okh_1 rh_1; have cra0 := ra_2.cell (j := 0) rfl; have cra1 := ra_2.cell (j := 1) rfl; have cra2 := ra_2.cell (j := 2) rfl; have cra3 := ra_2.cell (j := 3) rfl)
          | ((with_reducible refine wpList_at ⟨some 5, _, _, _, _, _⟩ ?_); refine wpList_box_row rfl _ _ rfl ((⟨false, n, nz⟩ : DvF).cs) rfl ?_; intro w3 rf_3 s3 g3; have k3 : Below w2.heap.size w2 w3 := grown_below g3 (Nat.le_refl _) (by simp); have B3 := B2.trans (k3.mono B2.size); have okh_3 := okh_2.on k3; have rh_3 := rh_2.on k3; have ra_3 := ra_2.on k3; clear okh_2 rh_2 ra_2; have cra0 := ra_3.cell (j := 0) rfl; have cra1 := ra_3.cell (j := 1) rfl; have cra2 := ra_3.cell (j := 2) rfl; have cra3 := ra_3.cell (j := 3) rfl; have crf0 := rf_3.cell (j := 0) rfl; have crf1 := rf_3.cell (j := 1) rfl; have crf2 := rf_3.cell (j := 2) rfl)
          | (with_reducible refine wpList_alloc_row (o := ⟨some 6, _, _, _, _, _⟩) rfl _ rfl zeroH zero_hw ?_; intro w4 z6_4 s4 g4; have k4 : Below w3.heap.size w3 w4 := grown_below g4 (Nat.le_refl _) (by simp); have B4 := B3.trans (k4.mono B3.size); have okh_4 := okh_3.on k4; have rh_4 := rh_3.on k4; have ra_4 := ra_3.on k4; have rf_4 := rf_3.on k4; clear okh_3 rh_3 ra_3 rf_3; have cra0 := ra_4.cell (j := 0) rfl; have cra1 := ra_4.cell (j := 1) rfl; have cra2 := ra_4.cell (j := 2) rfl; have cra3 := ra_4.cell (j := 3) rfl; have crf0 := rf_4.cell (j := 0) rfl; have crf1 := rf_4.cell (j := 1) rfl; have crf2 := rf_4.cell (j := 2) rfl)
          | (with_reducible refine wpList_alloc_row (o := ⟨some 7, _, _, _, _, _⟩) rfl _ rfl zeroR zero_rs ?_; intro w5 z7_5 s5 g5; have k5 : Below w4.heap.size w4 w5 := grown_below g5 (Nat.le_refl _) (by simp); have B5 := B4.trans (k5.mono B4.size); have okh_5 := okh_4.on k5; have rh_5 := rh_4.on k5; have ra_5 := ra_4.on k5; have rf_5 := rf_4.on k5; have z6_5 := z6_4.on k5; clear okh_4 rh_4 ra_4 rf_4 z6_4; have cra0 := ra_5.cell (j := 0) rfl; have cra1 := ra_5.cell (j := 1) rfl; have cra2 := ra_5.cell (j := 2) rfl; have cra3 := ra_5.cell (j := 3) rfl; have crf0 := rf_5.cell (j := 0) rfl; have crf1 := rf_5.cell (j := 1) rfl; have crf2 := rf_5.cell (j := 2) rfl)
          | ((with_reducible refine wpList_at ⟨some 20, _, _, _, _, _⟩ ?_); refine wpList_valueG rfl _ (by exact exec_loadH _ _ rfl (w.heap.size) rfl h H16.out rh_5) ?_)
          | (with_reducible refine wpList_alloc_row (o := ⟨some 9, _, _, _, _, _⟩) rfl _ rfl zeroH zero_hw ?_; intro w6 r6 s6 g6)
          | ((with_reducible refine wpList_at ⟨none, .store _ (.tmp 9) _, _, _, _, _⟩ ?_); refine wpList_store_all rfl _ _ _ rfl w5.heap.size rfl _ _ r6 (h.cs) rfl (h.cs_one) (hw_zl H16.out) (hw_size H16.out) ?_; intro w7 ro_7 g7; have k7 : Below w5.heap.size w5 w7 := below_kept (grown_below g6 (Nat.le_refl _) (by simp)) g7 (Nat.le_of_lt s6) (by rintro q hq; cases hq; exact Nat.le_refl _); have B7 := B5.trans (k7.mono B5.size); have okh_7 := okh_5.on k7; have rh_7 := rh_5.on k7; have ra_7 := ra_5.on k7; have rf_7 := rf_5.on k7; have z6_7 := z6_5.on k7; have z7_7 := z7_5.on k7; clear okh_5 rh_5 ra_5 rf_5 z6_5 z7_5; have cra0 := ra_7.cell (j := 0) rfl; have cra1 := ra_7.cell (j := 1) rfl; have cra2 := ra_7.cell (j := 2) rfl; have cra3 := ra_7.cell (j := 3) rfl; have crf0 := rf_7.cell (j := 0) rfl; have crf1 := rf_7.cell (j := 1) rfl; have crf2 := rf_7.cell (j := 2) rfl; clear r6 g6 g7; have s7 := ro_7.lt)
          | (with_reducible refine wpList_alloc_row (o := ⟨some 10, _, _, _, _, _⟩) rfl _ rfl zeroR zero_rs ?_; intro w8 r8 s8 g8)
          | ((with_reducible refine wpList_at ⟨none, .store _ (.tmp 10) _, _, _, _, _⟩ ?_); refine wpList_store_all rfl _ _ _ rfl w7.heap.size rfl _ _ r8 (noR.cs) rfl (noR.cs_one) rfl (by kernel_rfl) ?_; intro w9 rr_9 g9; have k9 : Below w7.heap.size w7 w9 := below_kept (grown_below g8 (Nat.le_refl _) (by simp)) g9 (Nat.le_of_lt s8) (by rintro q hq; cases hq; exact Nat.le_refl _); have B9 := B7.trans (k9.mono B7.size); have okh_9 := okh_7.on k9; have rh_9 := rh_7.on k9; have ra_9 := ra_7.on k9; have rf_9 := rf_7.on k9; have z6_9 := z6_7.on k9; have z7_9 := z7_7.on k9; have ro_9 := ro_7.on k9; clear okh_7 rh_7 ra_7 rf_7 z6_7 z7_7 ro_7; have cra0 := ra_9.cell (j := 0) rfl; have cra1 := ra_9.cell (j := 1) rfl; have cra2 := ra_9.cell (j := 2) rfl; have cra3 := ra_9.cell (j := 3) rfl; have crf0 := rf_9.cell (j := 0) rfl; have crf1 := rf_9.cell (j := 1) rfl; have crf2 := rf_9.cell (j := 2) rfl; clear r8 g8 g9; have s9 := rr_9.lt)
          | ((with_reducible refine wpList_at ⟨some 61, _, _, _, _, _⟩ ?_); refine wpList_valueG rfl _ (by exact exec_loadHF _ _ rfl (w.heap.size) rfl h rh_9) ?_))
        refine ((HC _ okh_9.1).out).mono ?_
        rintro e w10 ⟨A10, n10, c10, ps10, rfl, ok10, in10, hb10, h10⟩
        have B10 := B9.trans (h10.mono B9.size)
        have okh_10 := okh_9.on h10
        have rh_10 := rh_9.on h10
        have ra_10 := ra_9.on h10
        have rf_10 := rf_9.on h10
        have z6_10 := z6_9.on h10
        have z7_10 := z7_9.on h10
        have ro_10 := ro_9.on h10
        have rr_10 := rr_9.on h10
        clear okh_9 rh_9 ra_9 rf_9 z6_9 z7_9 ro_9 rr_9
        have cra0 := ra_10.cell (j := 0) rfl
        have cra1 := ra_10.cell (j := 1) rfl
        have cra2 := ra_10.cell (j := 2) rfl
        have cra3 := ra_10.cell (j := 3) rfl
        have crf0 := rf_10.cell (j := 0) rfl
        have crf1 := rf_10.cell (j := 1) rfl
        have crf2 := rf_10.cell (j := 2) rfl
        unfold fuv
        have HBK := Lib.hid hb10
        clear hb10
        go_wp2_with (first
          | (with_reducible refine wpList_alloc_row (o := ⟨some 13, _, _, _, _, _⟩) rfl _ rfl [.slice none 0 0] (by kernel_rfl) ?_; intro w11 r11 s11 g11)
          | ((with_reducible refine wpList_at ⟨none, .store _ (.tmp 13) _, _, _, _, _⟩ ?_); refine wpList_store_all rfl _ _ _ rfl w10.heap.size rfl _ _ r11 [.slice A10 n10 c10] rfl (slice_one _ _ _) rfl (by kernel_rfl) ?_; intro w12 rv_12 g12; have k12 : Below w10.heap.size w10 w12 := below_kept (grown_below g11 (Nat.le_refl _) (by simp)) g12 (Nat.le_of_lt s11) (by rintro q hq; cases hq; exact Nat.le_refl _); have B12 := B10.trans (k12.mono B10.size); have okh_12 := okh_10.on k12; have rh_12 := rh_10.on k12; have ra_12 := ra_10.on k12; have rf_12 := rf_10.on k12; have z6_12 := z6_10.on k12; have z7_12 := z7_10.on k12; have ro_12 := ro_10.on k12; have rr_12 := rr_10.on k12; have nok_12 := ok10.on k12; clear okh_10 rh_10 ra_10 rf_10 z6_10 z7_10 ro_10 rr_10; have cra0 := ra_12.cell (j := 0) rfl; have cra1 := ra_12.cell (j := 1) rfl; have cra2 := ra_12.cell (j := 2) rfl; have cra3 := ra_12.cell (j := 3) rfl; have crf0 := rf_12.cell (j := 0) rfl; have crf1 := rf_12.cell (j := 1) rfl; have crf2 := rf_12.cell (j := 2) rfl; clear r11 g11 g12)
          | ((with_reducible refine wpList_at ⟨some 76, _, _, _, _, _⟩ ?_); refine wpList_valueG rfl _ (by exact exec_load _ 40 _ rfl ⟨w10.heap.size, 0, none⟩ rfl [.slice A10 n10 c10] rv_12.cells _ Try.underlying40 rfl (by kernel_rfl)) ?_)
          | ((with_reducible refine wpList_at ⟨none, .store _ (.tmp 77) _, _, _, _, _⟩ ?_); refine wpList_store_part rfl _ _ _ rfl (w5.heap.size) 0 rfl _ _ ro_12 [.slice A10 n10 c10] rfl (slice_one _ _ _) (by show 0 + 1 ≤ _ + 2; omega) (by kernel_rfl) ?_; intro wP ro9 gP; have lro0 := ro_12.lt; have lrr0 := rr_12.lt; have lz60 := z6_12.lt; have lz70 := z7_12.lt; have rr_gP := rr_12.kept gP (by simp; omega); have rf_gP := rf_12.kept gP (by simp; omega); have z6_gP := z6_12.kept gP (by simp; omega); have z7_gP := z7_12.kept gP (by simp; omega); have b_gP := below_kept B12 gP B12.size (by rintro q hq; cases hq; omega); have crf0 := rf_gP.cell (j := 0) rfl; have crf1 := rf_gP.cell (j := 1) rfl; have crf2 := rf_gP.cell (j := 2) rfl))
        have z9 := gP.size
        have hk0 : HwOK w12 (⟨A10, n10, c10, ps10, h.B, h.m, h.d, h.fs, h.rt⟩ : Hw) := ⟨nok_12, okh_12.2.1, H16.out⟩
        have hi0 : HwIn (fun q => (q < w.heap.size ∧ X q) ∨ w9.heap.size ≤ q) (⟨A10, n10, c10, ps10, h.B, h.m, h.d, h.fs, h.rt⟩ : Hw) := ⟨in10, HIX.out.2.weak (fun _ h => .inl h)⟩
        have hk9 := hk0.apart hi0 gP (by rintro (⟨h1, _⟩ | h1) <;> omega)
        try simp only [Act.put, List.setIfInBounds_toArray, List.set_cons_zero, List.set_cons_succ]
        have b0 : Below w.heap.size w wP.drew := b_gP.drew
        have z0 : wP.drew.heap.size = wP.heap.size := rfl
        have ra1e := ro9.drew
        have rr1e := rr_gP.drew
        have z6e := z6_gP.drew
        have z7e := z7_gP.drew
        have lz6 := z6e.lt
        have lz7 := z7e.lt
        have hke : HwOK wP.drew (⟨A10, n10, c10, ps10, h.B, h.m, h.d, h.fs, h.rt⟩ : Hw) := hk9
        refine wp_region_plan (fun w' => Row w' (w5.heap.size) 64 ((⟨A10, n10, c10, ps10, h.B, h.m, h.d, h.fs, h.rt⟩ : Hw)).cs ∧ Row w' (w7.heap.size) 78 (noR).cs) (.take 0 <| .take 1 <| .one 2 <| .one 3 <| .take 4 <| .done) (by kernel_rfl) (by kernel_rfl) (by kernel_rfl) (fun _ _ _ _ _ h => h) ⟨ra1e, rr1e⟩ ?_
        repeat (refine plan_take _ rfl ?_; (first | ((with_reducible refine wpQuiet_at ⟨some 139, _, _, _, _, _⟩ ?_); refine wpQuiet_valueG rfl _ (by intro _ hS; exact exec_loadH _ _ rfl (w5.heap.size) rfl ((⟨A10, n10, c10, ps10, h.B, h.m, h.d, h.fs, h.rt⟩ : Hw)) H16.out hS.1) (wpQuiet_nil ?_); simp only [Act.put, List.setIfInBounds_toArray, List.set_cons_zero, List.set_cons_succ]) | ((with_reducible refine wpQuiet_at ⟨some 140, _, _, _, _, _⟩ ?_); refine wpQuiet_valueG rfl _ (by intro _ hS; exact exec_loadR _ _ rfl (w7.heap.size) rfl (noR) hS.2) (wpQuiet_nil ?_); simp only [Act.put, List.setIfInBounds_toArray, List.set_cons_zero, List.set_cons_succ]) | (go_big_quiet_step ((intros; rfl)); refine wpQuiet_nil ?_)))
        refine plan_one _ rfl fun K hK => ?_
        refine step_store_all rfl _ _ _ rfl (w3.heap.size) rfl _ _ z6e (((⟨A10, n10, c10, ps10, h.B, h.m, h.d, h.fs, h.rt⟩ : Hw)).cs) rfl (Hw.cs_one _) (hw_zl H16.out) (hw_size H16.out) ?_
        intro wu25 ru25 gu25
        have ra1u25 := ra1e.kept gu25 (by simp; omega)
        have rr1u25 := rr1e.kept gu25 (by simp; omega)
        have z7u25 := z7e.kept gu25 (by simp; omega)
        have hku25 := hke.apart hi0 gu25 (by rintro (⟨h1, _⟩ | h1) <;> omega)
        have bu25 := below_kept b0 gu25 b0.size (by rintro q hq; cases hq; omega)
        refine hK _ _ ⟨ra1u25, rr1u25⟩ ?_
        clear hK K
        simp only [Act.put]
        refine plan_one _ rfl fun K hK => ?_
        refine step_store_all rfl _ _ _ rfl (w4.heap.size) rfl _ _ z7u25 ((noR).cs) rfl (DvR.cs_one _) rfl (by kernel_rfl) ?_
        intro wu26 ru26 gu26
        have ra1u26 := ra1u25.kept gu26 (by simp; omega)
        have rr1u26 := rr1u25.kept gu26 (by simp; omega)
        have z6su26 := ru25.kept gu26 (by simp; omega)
        have hku26 := hku25.apart hi0 gu26 (by rintro (⟨h1, _⟩ | h1) <;> omega)
        have bu26 := below_kept bu25 gu26 bu25.size (by rintro q hq; cases hq; omega)
        refine hK _ _ ⟨ra1u26, rr1u26⟩ ?_
        clear hK K
        simp only [Act.put]
        repeat (refine plan_take _ rfl ?_; (first | ((with_reducible refine wpQuiet_at ⟨some 139, _, _, _, _, _⟩ ?_); refine wpQuiet_valueG rfl _ (by intro _ hS; exact exec_loadH _ _ rfl (w5.heap.size) rfl ((⟨A10, n10, c10, ps10, h.B, h.m, h.d, h.fs, h.rt⟩ : Hw)) H16.out hS.1) (wpQuiet_nil ?_); simp only [Act.put, List.setIfInBounds_toArray, List.set_cons_zero, List.set_cons_succ]) | ((with_reducible refine wpQuiet_at ⟨some 140, _, _, _, _, _⟩ ?_); refine wpQuiet_valueG rfl _ (by intro _ hS; exact exec_loadR _ _ rfl (w7.heap.size) rfl (noR) hS.2) (wpQuiet_nil ?_); simp only [Act.put, List.setIfInBounds_toArray, List.set_cons_zero, List.set_cons_succ]) | (go_big_quiet_step ((intros; rfl)); refine wpQuiet_nil ?_)))
        refine plan_done ?_
        go_wp2_with fail
        refine bodyPost_ret (results_cells2 Try.results28 _ _ _ _ _ _ rfl rfl (load_hw z6su26 H16.out) (load_rs ru26)) rfl ⟨(⟨A10, n10, c10, ps10, h.B, h.m, h.d, h.fs, h.rt⟩ : Hw), rfl, hku26, hi0.weak (fun q hq => by rcases hq with h1 | h1; exact .inl h1.2; exact .inr (by omega)), by show DvS.mk _ _ _ = _; rw [HBK.out], bu26⟩
end Go.Proofs.Ytfcbcclcmgheeaa
