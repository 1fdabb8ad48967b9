/-
  What the reference's Do returns: a contract by a walk. Condition: bounded lengths.
-/
import Derived.Test.YtfcbcclcmgheeaaDvQ
import Derived.Test.YtfcbcclcmgheeaaFuRP
namespace Go.Proofs.Ytfcbcclcmgheeaa
open Go.RowKit

set_option maxRecDepth 100000 in
set_option maxHeartbeats 4000000 in
theorem rdo1_any (X : Nat → Prop) (h : Hw) (b c : Int) (s : ByteArray) (f : DvF) (w : World) (hX : HwIn X h) (hok : HwOK w h) (hs : dvSm h.s) :
    Calls Try.prog 28 #[h.v, (⟨1, b, c, s⟩ : DvA).v, f.v] w (GivesD X (dvSt h.s ⟨1, b, c, s⟩ f) (dvRs h.s ⟨1, b, c, s⟩ f) (dvErr h.s ⟨1, b, c, s⟩) w) := by
  have HSU := Lib.hid hs
  clear HSU
  have H16 := Lib.hid hok.h16
  have HIX := Lib.hid (hok.in_.and hX)
  have HI1 : Hid (HwIn (fun q => (q < w.heap.size ∧ X q) ∨ (w.heap.size < q ∧ q < w.heap.size)) h) := Lib.hid (HIX.out.weak (fun q hq => .inl hq))
  clear hX
  by_cases hs0 : s = noB
  rotate_left
  · have hb : dvBad ⟨1, b, c, s⟩ = true := by rw [dvBad_fuse (.inl rfl)]; exact decide_eq_true hs0
    have hq := str_empty hs0
    clear hs0
    have HE : Hid (dvErr h.s ⟨1, b, c, s⟩ = 1) := Lib.hid (dvErr_bad hb)
    rw [dvSt_bad hb, dvRs_bad hb]
    generalize dvErr h.s ⟨1, b, c, s⟩ = E at *
    obtain ⟨cut, n, nz⟩ := f
    clear hb hs
    go_enter Try.func28, Try.ntmps28
    go_wp2_with (first
      | ((with_reducible refine wpList_at ⟨some 3, _, _, _, _, _⟩ ?_); refine wpList_box_row rfl _ _ rfl (h.cs) rfl ?_; intro w1 rh_1 s1 g1; have k1 : Below w.heap.size w w1 := grown_below g1 (Nat.le_refl _) (by simp); have B1 : Below w.heap.size w w1 := k1; have okh_1 := hok.on k1)
      | ((with_reducible refine wpList_at ⟨some 4, _, _, _, _, _⟩ ?_); refine wpList_box_row rfl _ _ rfl ((⟨1, b, c, s⟩ : DvA).cs) rfl ?_; intro w2 ra_2 s2 g2; have k2 : Below w1.heap.size w1 w2 := grown_below g2 (Nat.le_refl _) (by simp); have B2 := B1.trans (k2.mono B1.size); have okh_2 := okh_1.on k2; have rh_2 := rh_1.on k2; clear okh_1 rh_1; have cra0 := ra_2.cell (j := 0) rfl; have cra1 := ra_2.cell (j := 1) rfl; have cra2 := ra_2.cell (j := 2) rfl; have cra3 := ra_2.cell (j := 3) rfl)
      | ((with_reducible refine wpList_at ⟨some 5, _, _, _, _, _⟩ ?_); refine wpList_box_row rfl _ _ rfl ((⟨cut, n, nz⟩ : DvF).cs) rfl ?_; intro w3 rf_3 s3 g3; have k3 : Below w2.heap.size w2 w3 := grown_below g3 (Nat.le_refl _) (by simp); have B3 := B2.trans (k3.mono B2.size); have okh_3 := okh_2.on k3; have rh_3 := rh_2.on k3; have ra_3 := ra_2.on k3; clear okh_2 rh_2 ra_2; have cra0 := ra_3.cell (j := 0) rfl; have cra1 := ra_3.cell (j := 1) rfl; have cra2 := ra_3.cell (j := 2) rfl; have cra3 := ra_3.cell (j := 3) rfl; have crf0 := rf_3.cell (j := 0) rfl; have crf1 := rf_3.cell (j := 1) rfl; have crf2 := rf_3.cell (j := 2) rfl)
      | (with_reducible refine wpList_alloc_row (o := ⟨some 6, _, _, _, _, _⟩) rfl _ rfl zeroH zero_hw ?_; intro w4 z6_4 s4 g4; have k4 : Below w3.heap.size w3 w4 := grown_below g4 (Nat.le_refl _) (by simp); have B4 := B3.trans (k4.mono B3.size); have okh_4 := okh_3.on k4; have rh_4 := rh_3.on k4; have ra_4 := ra_3.on k4; have rf_4 := rf_3.on k4; clear okh_3 rh_3 ra_3 rf_3; have cra0 := ra_4.cell (j := 0) rfl; have cra1 := ra_4.cell (j := 1) rfl; have cra2 := ra_4.cell (j := 2) rfl; have cra3 := ra_4.cell (j := 3) rfl; have crf0 := rf_4.cell (j := 0) rfl; have crf1 := rf_4.cell (j := 1) rfl; have crf2 := rf_4.cell (j := 2) rfl)
      | (with_reducible refine wpList_alloc_row (o := ⟨some 7, _, _, _, _, _⟩) rfl _ rfl zeroR zero_rs ?_; intro w5 z7_5 s5 g5; have k5 : Below w4.heap.size w4 w5 := grown_below g5 (Nat.le_refl _) (by simp); have B5 := B4.trans (k5.mono B4.size); have okh_5 := okh_4.on k5; have rh_5 := rh_4.on k5; have ra_5 := ra_4.on k5; have rf_5 := rf_4.on k5; have z6_5 := z6_4.on k5; clear okh_4 rh_4 ra_4 rf_4 z6_4; have cra0 := ra_5.cell (j := 0) rfl; have cra1 := ra_5.cell (j := 1) rfl; have cra2 := ra_5.cell (j := 2) rfl; have cra3 := ra_5.cell (j := 3) rfl; have crf0 := rf_5.cell (j := 0) rfl; have crf1 := rf_5.cell (j := 1) rfl; have crf2 := rf_5.cell (j := 2) rfl)
      | ((with_reducible refine wpList_at ⟨some 20, _, _, _, _, _⟩ ?_); refine wpList_valueG rfl _ (by exact exec_loadH _ _ rfl (w.heap.size) rfl h H16.out rh_5) ?_)
      | (with_reducible refine wpList_alloc_row (o := ⟨some 9, _, _, _, _, _⟩) rfl _ rfl zeroH zero_hw ?_; intro w6 r6 s6 g6)
      | ((with_reducible refine wpList_at ⟨none, .store _ (.tmp 9) _, _, _, _, _⟩ ?_); refine wpList_store_all rfl _ _ _ rfl w5.heap.size rfl _ _ r6 (h.cs) rfl (h.cs_one) (hw_zl H16.out) (hw_size H16.out) ?_; intro w7 ro_7 g7; have k7 : Below w5.heap.size w5 w7 := below_kept (grown_below g6 (Nat.le_refl _) (by simp)) g7 (Nat.le_of_lt s6) (by rintro q hq; cases hq; exact Nat.le_refl _); have B7 := B5.trans (k7.mono B5.size); have okh_7 := okh_5.on k7; have rh_7 := rh_5.on k7; have ra_7 := ra_5.on k7; have rf_7 := rf_5.on k7; have z6_7 := z6_5.on k7; have z7_7 := z7_5.on k7; clear okh_5 rh_5 ra_5 rf_5 z6_5 z7_5; have cra0 := ra_7.cell (j := 0) rfl; have cra1 := ra_7.cell (j := 1) rfl; have cra2 := ra_7.cell (j := 2) rfl; have cra3 := ra_7.cell (j := 3) rfl; have crf0 := rf_7.cell (j := 0) rfl; have crf1 := rf_7.cell (j := 1) rfl; have crf2 := rf_7.cell (j := 2) rfl; clear r6 g6 g7; have s7 := ro_7.lt)
      | (with_reducible refine wpList_alloc_row (o := ⟨some 10, _, _, _, _, _⟩) rfl _ rfl zeroR zero_rs ?_; intro w8 r8 s8 g8)
      | ((with_reducible refine wpList_at ⟨none, .store _ (.tmp 10) _, _, _, _, _⟩ ?_); refine wpList_store_all rfl _ _ _ rfl w7.heap.size rfl _ _ r8 (noR.cs) rfl (noR.cs_one) rfl (by kernel_rfl) ?_; intro w9 rr_9 g9; have k9 : Below w7.heap.size w7 w9 := below_kept (grown_below g8 (Nat.le_refl _) (by simp)) g9 (Nat.le_of_lt s8) (by rintro q hq; cases hq; exact Nat.le_refl _); have B9 := B7.trans (k9.mono B7.size); have okh_9 := okh_7.on k9; have rh_9 := rh_7.on k9; have ra_9 := ra_7.on k9; have rf_9 := rf_7.on k9; have z6_9 := z6_7.on k9; have z7_9 := z7_7.on k9; have ro_9 := ro_7.on k9; clear okh_7 rh_7 ra_7 rf_7 z6_7 z7_7 ro_7; have cra0 := ra_9.cell (j := 0) rfl; have cra1 := ra_9.cell (j := 1) rfl; have cra2 := ra_9.cell (j := 2) rfl; have cra3 := ra_9.cell (j := 3) rfl; have crf0 := rf_9.cell (j := 0) rfl; have crf1 := rf_9.cell (j := 1) rfl; have crf2 := rf_9.cell (j := 2) rfl; clear r8 g8 g9; have s9 := rr_9.lt))
    try simp only [Act.put, List.setIfInBounds_toArray, List.set_cons_zero, List.set_cons_succ]
    have b0 : Below w.heap.size w w9.drew := B9.drew
    have z0 : w9.drew.heap.size = w9.heap.size := rfl
    have ra1e := rh_9.drew
    have rr1e := rr_9.drew
    have z6e := z6_9.drew
    have z7e := z7_9.drew
    have lz6 := z6e.lt
    have lz7 := z7e.lt
    have hke : HwOK w9.drew h := okh_9
    refine wp_region_plan (fun w' => Row w' (w.heap.size) 64 (h).cs ∧ Row w' (w7.heap.size) 78 (noR).cs) (.take 0 <| .take 1 <| .one 2 <| .one 3 <| .take 4 <| .done) (by kernel_rfl) (by kernel_rfl) (by kernel_rfl) (fun _ _ _ _ _ h => h) ⟨ra1e, rr1e⟩ ?_
    repeat (refine plan_take _ rfl ?_; (first | ((with_reducible refine wpQuiet_at ⟨some 31, _, _, _, _, _⟩ ?_); refine wpQuiet_valueG rfl _ (by intro _ hS; exact exec_loadH _ _ rfl (w.heap.size) rfl (h) H16.out hS.1) (wpQuiet_nil ?_); simp only [Act.put, List.setIfInBounds_toArray, List.set_cons_zero, List.set_cons_succ]) | ((with_reducible refine wpQuiet_at ⟨some 32, _, _, _, _, _⟩ ?_); refine wpQuiet_valueG rfl _ (by intro _ hS; exact exec_loadR _ _ rfl (w7.heap.size) rfl (noR) hS.2) (wpQuiet_nil ?_); simp only [Act.put, List.setIfInBounds_toArray, List.set_cons_zero, List.set_cons_succ]) | (go_big_quiet_step ((intros; rfl)); refine wpQuiet_nil ?_)))
    refine plan_one _ rfl fun K hK => ?_
    refine step_store_all rfl _ _ _ rfl (w3.heap.size) rfl _ _ z6e ((h).cs) rfl (Hw.cs_one _) (hw_zl H16.out) (hw_size H16.out) ?_
    intro wu1 ru1 gu1
    have ra1u1 := ra1e.kept gu1 (by simp; omega)
    have rr1u1 := rr1e.kept gu1 (by simp; omega)
    have z7u1 := z7e.kept gu1 (by simp; omega)
    have hku1 := hke.apart HI1.out gu1 (by rintro (⟨h1, _⟩ | h1) <;> omega)
    have bu1 := below_kept b0 gu1 b0.size (by rintro q hq; cases hq; omega)
    refine hK _ _ ⟨ra1u1, rr1u1⟩ ?_
    clear hK K
    simp only [Act.put]
    refine plan_one _ rfl fun K hK => ?_
    refine step_store_all rfl _ _ _ rfl (w4.heap.size) rfl _ _ z7u1 ((noR).cs) rfl (DvR.cs_one _) rfl (by kernel_rfl) ?_
    intro wu2 ru2 gu2
    have ra1u2 := ra1u1.kept gu2 (by simp; omega)
    have rr1u2 := rr1u1.kept gu2 (by simp; omega)
    have z6su2 := ru1.kept gu2 (by simp; omega)
    have hku2 := hku1.apart HI1.out gu2 (by rintro (⟨h1, _⟩ | h1) <;> omega)
    have bu2 := below_kept bu1 gu2 bu1.size (by rintro q hq; cases hq; omega)
    refine hK _ _ ⟨ra1u2, rr1u2⟩ ?_
    clear hK K
    simp only [Act.put]
    repeat (refine plan_take _ rfl ?_; (first | ((with_reducible refine wpQuiet_at ⟨some 31, _, _, _, _, _⟩ ?_); refine wpQuiet_valueG rfl _ (by intro _ hS; exact exec_loadH _ _ rfl (w.heap.size) rfl (h) H16.out hS.1) (wpQuiet_nil ?_); simp only [Act.put, List.setIfInBounds_toArray, List.set_cons_zero, List.set_cons_succ]) | ((with_reducible refine wpQuiet_at ⟨some 32, _, _, _, _, _⟩ ?_); refine wpQuiet_valueG rfl _ (by intro _ hS; exact exec_loadR _ _ rfl (w7.heap.size) rfl (noR) hS.2) (wpQuiet_nil ?_); simp only [Act.put, List.setIfInBounds_toArray, List.set_cons_zero, List.set_cons_succ]) | (go_big_quiet_step ((intros; rfl)); refine wpQuiet_nil ?_)))
    refine plan_done ?_
    go_wp2_with fail
    refine bodyPost_ret (results_cells2 Try.results28 _ _ _ _ _ _ rfl rfl (load_hw z6su2 H16.out) (load_rs ru2)) rfl ⟨h, by rw [HE.out]; rfl, hku2, HI1.out.weak (fun q hq => by rcases hq with h1 | h1; exact .inl h1.2; exact .inr (by omega)), rfl, bu2⟩
  · subst hs0
    have hb : dvBad ⟨1, b, c, noB⟩ = false := by rw [dvBad_fuse (.inl rfl)]; simp
    unfold noB at *
    have HC := fun W h1 => Lib.hid (rread_any h.A h.n h.c h.ps b c f.noise W h1)
    rw [dvSt_keep (.inl rfl)]
    by_cases he : dvErr h.s ⟨1, b, c, ⟨#[]⟩⟩ = 0
    rotate_left
    · rw [dvRs_err he]
      rw [dvErr_fuse hb (.inl rfl)] at *
      have hq : (fuErr (bk h.ps) b c != 0) = true := by simp only [bne_iff_ne, ne_eq]; exact he
      show Calls _ _ _ _ (GivesD X h.s noR (fuErr (bk h.ps) b c) w)
      generalize fuErr (bk h.ps) b c = E at *
      generalize fuRead (bk h.ps) b c f.noise = V at *
      obtain ⟨cut, n, nz⟩ := f
      clear hb hs he
      go_enter Try.func28, Try.ntmps28
      go_wp2_with (first
        | ((with_reducible refine wpList_at ⟨some 3, _, _, _, _, _⟩ ?_); refine wpList_box_row rfl _ _ rfl (h.cs) rfl ?_; intro w1 rh_1 s1 g1; have k1 : Below w.heap.size w w1 := grown_below g1 (Nat.le_refl _) (by simp); have B1 : Below w.heap.size w w1 := k1; have okh_1 := hok.on k1)
        | ((with_reducible refine wpList_at ⟨some 4, _, _, _, _, _⟩ ?_); refine wpList_box_row rfl _ _ rfl ((⟨1, b, c, ⟨#[]⟩⟩ : DvA).cs) rfl ?_; intro w2 ra_2 s2 g2; have k2 : Below w1.heap.size w1 w2 := grown_below g2 (Nat.le_refl _) (by simp); have B2 := B1.trans (k2.mono B1.size); have okh_2 := okh_1.on k2; have rh_2 := rh_1.on k2; clear okh_1 rh_1; have cra0 := ra_2.cell (j := 0) rfl; have cra1 := ra_2.cell (j := 1) rfl; have cra2 := ra_2.cell (j := 2) rfl; have cra3 := ra_2.cell (j := 3) rfl)
        | ((with_reducible refine wpList_at ⟨some 5, _, _, _, _, _⟩ ?_); refine wpList_box_row rfl _ _ rfl ((⟨cut, n, nz⟩ : DvF).cs) rfl ?_; intro w3 rf_3 s3 g3; have k3 : Below w2.heap.size w2 w3 := grown_below g3 (Nat.le_refl _) (by simp); have B3 := B2.trans (k3.mono B2.size); have okh_3 := okh_2.on k3; have rh_3 := rh_2.on k3; have ra_3 := ra_2.on k3; clear okh_2 rh_2 ra_2; have cra0 := ra_3.cell (j := 0) rfl; have cra1 := ra_3.cell (j := 1) rfl; have cra2 := ra_3.cell (j := 2) rfl; have cra3 := ra_3.cell (j := 3) rfl; have crf0 := rf_3.cell (j := 0) rfl; have crf1 := rf_3.cell (j := 1) rfl; have crf2 := rf_3.cell (j := 2) rfl)
        | (with_reducible refine wpList_alloc_row (o := ⟨some 6, _, _, _, _, _⟩) rfl _ rfl zeroH zero_hw ?_; intro w4 z6_4 s4 g4; have k4 : Below w3.heap.size w3 w4 := grown_below g4 (Nat.le_refl _) (by simp); have B4 := B3.trans (k4.mono B3.size); have okh_4 := okh_3.on k4; have rh_4 := rh_3.on k4; have ra_4 := ra_3.on k4; have rf_4 := rf_3.on k4; clear okh_3 rh_3 ra_3 rf_3; have cra0 := ra_4.cell (j := 0) rfl; have cra1 := ra_4.cell (j := 1) rfl; have cra2 := ra_4.cell (j := 2) rfl; have cra3 := ra_4.cell (j := 3) rfl; have crf0 := rf_4.cell (j := 0) rfl; have crf1 := rf_4.cell (j := 1) rfl; have crf2 := rf_4.cell (j := 2) rfl)
        | (with_reducible refine wpList_alloc_row (o := ⟨some 7, _, _, _, _, _⟩) rfl _ rfl zeroR zero_rs ?_; intro w5 z7_5 s5 g5; have k5 : Below w4.heap.size w4 w5 := grown_below g5 (Nat.le_refl _) (by simp); have B5 := B4.trans (k5.mono B4.size); have okh_5 := okh_4.on k5; have rh_5 := rh_4.on k5; have ra_5 := ra_4.on k5; have rf_5 := rf_4.on k5; have z6_5 := z6_4.on k5; clear okh_4 rh_4 ra_4 rf_4 z6_4; have cra0 := ra_5.cell (j := 0) rfl; have cra1 := ra_5.cell (j := 1) rfl; have cra2 := ra_5.cell (j := 2) rfl; have cra3 := ra_5.cell (j := 3) rfl; have crf0 := rf_5.cell (j := 0) rfl; have crf1 := rf_5.cell (j := 1) rfl; have crf2 := rf_5.cell (j := 2) rfl)
        | ((with_reducible refine wpList_at ⟨some 20, _, _, _, _, _⟩ ?_); refine wpList_valueG rfl _ (by exact exec_loadH _ _ rfl (w.heap.size) rfl h H16.out rh_5) ?_)
        | (with_reducible refine wpList_alloc_row (o := ⟨some 9, _, _, _, _, _⟩) rfl _ rfl zeroH zero_hw ?_; intro w6 r6 s6 g6)
        | ((with_reducible refine wpList_at ⟨none, .store _ (.tmp 9) _, _, _, _, _⟩ ?_); refine wpList_store_all rfl _ _ _ rfl w5.heap.size rfl _ _ r6 (h.cs) rfl (h.cs_one) (hw_zl H16.out) (hw_size H16.out) ?_; intro w7 ro_7 g7; have k7 : Below w5.heap.size w5 w7 := below_kept (grown_below g6 (Nat.le_refl _) (by simp)) g7 (Nat.le_of_lt s6) (by rintro q hq; cases hq; exact Nat.le_refl _); have B7 := B5.trans (k7.mono B5.size); have okh_7 := okh_5.on k7; have rh_7 := rh_5.on k7; have ra_7 := ra_5.on k7; have rf_7 := rf_5.on k7; have z6_7 := z6_5.on k7; have z7_7 := z7_5.on k7; clear okh_5 rh_5 ra_5 rf_5 z6_5 z7_5; have cra0 := ra_7.cell (j := 0) rfl; have cra1 := ra_7.cell (j := 1) rfl; have cra2 := ra_7.cell (j := 2) rfl; have cra3 := ra_7.cell (j := 3) rfl; have crf0 := rf_7.cell (j := 0) rfl; have crf1 := rf_7.cell (j := 1) rfl; have crf2 := rf_7.cell (j := 2) rfl; clear r6 g6 g7; have s7 := ro_7.lt)
        | (with_reducible refine wpList_alloc_row (o := ⟨some 10, _, _, _, _, _⟩) rfl _ rfl zeroR zero_rs ?_; intro w8 r8 s8 g8)
        | ((with_reducible refine wpList_at ⟨none, .store _ (.tmp 10) _, _, _, _, _⟩ ?_); refine wpList_store_all rfl _ _ _ rfl w7.heap.size rfl _ _ r8 (noR.cs) rfl (noR.cs_one) rfl (by kernel_rfl) ?_; intro w9 rr_9 g9; have k9 : Below w7.heap.size w7 w9 := below_kept (grown_below g8 (Nat.le_refl _) (by simp)) g9 (Nat.le_of_lt s8) (by rintro q hq; cases hq; exact Nat.le_refl _); have B9 := B7.trans (k9.mono B7.size); have okh_9 := okh_7.on k9; have rh_9 := rh_7.on k9; have ra_9 := ra_7.on k9; have rf_9 := rf_7.on k9; have z6_9 := z6_7.on k9; have z7_9 := z7_7.on k9; have ro_9 := ro_7.on k9; clear okh_7 rh_7 ra_7 rf_7 z6_7 z7_7 ro_7; have cra0 := ra_9.cell (j := 0) rfl; have cra1 := ra_9.cell (j := 1) rfl; have cra2 := ra_9.cell (j := 2) rfl; have cra3 := ra_9.cell (j := 3) rfl; have crf0 := rf_9.cell (j := 0) rfl; have crf1 := rf_9.cell (j := 1) rfl; have crf2 := rf_9.cell (j := 2) rfl; clear r8 g8 g9; have s9 := rr_9.lt)
        | ((with_reducible refine wpList_at ⟨some 35, _, _, _, _, _⟩ ?_); refine wpList_valueG rfl _ (by exact exec_loadHF _ _ rfl (w.heap.size) rfl h rh_9) ?_))
      refine ((HC _ okh_9.1.1).out).mono ?_
      rintro e w10 ⟨rfl, h10⟩
      have B10 := B9.trans (h10.mono B9.size)
      have okh_10 := okh_9.on h10
      have rh_10 := rh_9.on h10
      have ra_10 := ra_9.on h10
      have rf_10 := rf_9.on h10
      have z6_10 := z6_9.on h10
      have z7_10 := z7_9.on h10
      have ro_10 := ro_9.on h10
      have rr_10 := rr_9.on h10
      clear okh_9 rh_9 ra_9 rf_9 z6_9 z7_9 ro_9 rr_9
      have cra0 := ra_10.cell (j := 0) rfl
      have cra1 := ra_10.cell (j := 1) rfl
      have cra2 := ra_10.cell (j := 2) rfl
      have cra3 := ra_10.cell (j := 3) rfl
      have crf0 := rf_10.cell (j := 0) rfl
      have crf1 := rf_10.cell (j := 1) rfl
      have crf2 := rf_10.cell (j := 2) rfl
      go_wp2_with fail
      try simp only [Act.put, List.setIfInBounds_toArray, List.set_cons_zero, List.set_cons_succ]
      have b0 : Below w.heap.size w w10.drew := B10.drew
      have z0 : w10.drew.heap.size = w10.heap.size := rfl
      have ra1e := rh_10.drew
      have rr1e := rr_10.drew
      have z6e := z6_10.drew
      have z7e := z7_10.drew
      have lz6 := z6e.lt
      have lz7 := z7e.lt
      have hke : HwOK w10.drew h := okh_10
      refine wp_region_plan (fun w' => Row w' (w.heap.size) 64 (h).cs ∧ Row w' (w7.heap.size) 78 (noR).cs) (.take 0 <| .take 1 <| .take 2 <| .one 3 <| .one 4 <| .take 5 <| .done) (by kernel_rfl) (by kernel_rfl) (by kernel_rfl) (fun _ _ _ _ _ h => h) ⟨ra1e, rr1e⟩ ?_
      repeat (refine plan_take _ rfl ?_; (first | ((with_reducible refine wpQuiet_at ⟨some 47, _, _, _, _, _⟩ ?_); refine wpQuiet_valueG rfl _ (by intro _ hS; exact exec_loadH _ _ rfl (w.heap.size) rfl (h) H16.out hS.1) (wpQuiet_nil ?_); simp only [Act.put, List.setIfInBounds_toArray, List.set_cons_zero, List.set_cons_succ]) | ((with_reducible refine wpQuiet_at ⟨some 48, _, _, _, _, _⟩ ?_); refine wpQuiet_valueG rfl _ (by intro _ hS; exact exec_loadR _ _ rfl (w7.heap.size) rfl (noR) hS.2) (wpQuiet_nil ?_); simp only [Act.put, List.setIfInBounds_toArray, List.set_cons_zero, List.set_cons_succ]) | (go_big_quiet_step ((intros; rfl)); refine wpQuiet_nil ?_)))
      refine plan_one _ rfl fun K hK => ?_
      refine step_store_all rfl _ _ _ rfl (w3.heap.size) rfl _ _ z6e ((h).cs) rfl (Hw.cs_one _) (hw_zl H16.out) (hw_size H16.out) ?_
      intro wu3 ru3 gu3
      have ra1u3 := ra1e.kept gu3 (by simp; omega)
      have rr1u3 := rr1e.kept gu3 (by simp; omega)
      have z7u3 := z7e.kept gu3 (by simp; omega)
      have hku3 := hke.apart HI1.out gu3 (by rintro (⟨h1, _⟩ | h1) <;> omega)
      have bu3 := below_kept b0 gu3 b0.size (by rintro q hq; cases hq; omega)
      refine hK _ _ ⟨ra1u3, rr1u3⟩ ?_
      clear hK K
      simp only [Act.put]
      refine plan_one _ rfl fun K hK => ?_
      refine step_store_all rfl _ _ _ rfl (w4.heap.size) rfl _ _ z7u3 ((noR).cs) rfl (DvR.cs_one _) rfl (by kernel_rfl) ?_
      intro wu4 ru4 gu4
      have ra1u4 := ra1u3.kept gu4 (by simp; omega)
      have rr1u4 := rr1u3.kept gu4 (by simp; omega)
      have z6su4 := ru3.kept gu4 (by simp; omega)
      have hku4 := hku3.apart HI1.out gu4 (by rintro (⟨h1, _⟩ | h1) <;> omega)
      have bu4 := below_kept bu3 gu4 bu3.size (by rintro q hq; cases hq; omega)
      refine hK _ _ ⟨ra1u4, rr1u4⟩ ?_
      clear hK K
      simp only [Act.put]
      repeat (refine plan_take _ rfl ?_; (first | ((with_reducible refine wpQuiet_at ⟨some 47, _, _, _, _, _⟩ ?_); refine wpQuiet_valueG rfl _ (by intro _ hS; exact exec_loadH _ _ rfl (w.heap.size) rfl (h) H16.out hS.1) (wpQuiet_nil ?_); simp only [Act.put, List.setIfInBounds_toArray, List.set_cons_zero, List.set_cons_succ]) | ((with_reducible refine wpQuiet_at ⟨some 48, _, _, _, _, _⟩ ?_); refine wpQuiet_valueG rfl _ (by intro _ hS; exact exec_loadR _ _ rfl (w7.heap.size) rfl (noR) hS.2) (wpQuiet_nil ?_); simp only [Act.put, List.setIfInBounds_toArray, List.set_cons_zero, List.set_cons_succ]) | (go_big_quiet_step ((intros; rfl)); refine wpQuiet_nil ?_)))
      refine plan_done ?_
      go_wp2_with fail
      refine bodyPost_ret (results_cells2 Try.results28 _ _ _ _ _ _ rfl rfl (load_hw z6su4 H16.out) (load_rs ru4)) rfl ⟨h, rfl, hku4, HI1.out.weak (fun q hq => by rcases hq with h1 | h1; exact .inl h1.2; exact .inr (by omega)), rfl, bu4⟩
    · rw [he]
      rw [dvErr_fuse hb (.inl rfl)] at he
      have he' : fuErr (bk h.ps) b c = 0 := he
      rw [he'] at HC
      obtain ⟨cut, n, nz⟩ := f
      cases cut with
      | true =>
        rw [dvRs_cut rfl]
        generalize fuRead (bk h.ps) b c nz = V at *
        clear hb hs he he'
        go_enter Try.func28, Try.ntmps28
        go_wp2_with (first
          | ((with_reducible refine wpList_at ⟨some 3, _, _, _, _, _⟩ ?_); refine wpList_box_row rfl _ _ rfl (h.cs) rfl ?_; intro w1 rh_1 s1 g1; have k1 : Below w.heap.size w w1 := grown_below g1 (Nat.le_refl _) (by simp); have B1 : Below w.heap.size w w1 := k1; have okh_1 := hok.on k1)
          | ((with_reducible refine wpList_at ⟨some 4, _, _, _, _, _⟩ ?_); refine wpList_box_row rfl _ _ rfl ((⟨1, b, c, ⟨#[]⟩⟩ : DvA).cs) rfl ?_; intro w2 ra_2 s2 g2; have k2 : Below w1.heap.size w1 w2 := grown_below g2 (Nat.le_refl _) (by simp); have B2 := B1.trans (k2.mono B1.size); have okh_2 := okh_1.on k2; have rh_2 := rh_1.on k2; clear okh_1 rh_1; have cra0 := ra_2.cell (j := 0) rfl; have cra1 := ra_2.cell (j := 1) rfl; have cra2 := ra_2.cell (j := 2) rfl; have cra3 := ra_2.cell (j := 3) rfl)
          | ((with_reducible refine wpList_at ⟨some 5, _, _, _, _, _⟩ ?_); refine wpList_box_row rfl _ _ rfl ((⟨true, n, nz⟩ : DvF).cs) rfl ?_; intro w3 rf_3 s3 g3; have k3 : Below w2.heap.size w2 w3 := grown_below g3 (Nat.le_refl _) (by simp); have B3 := B2.trans (k3.mono B2.size); have okh_3 := okh_2.on k3; have rh_3 := rh_2.on k3; have ra_3 := ra_2.on k3; clear okh_2 rh_2 ra_2; have cra0 := ra_3.cell (j := 0) rfl; have cra1 := ra_3.cell (j := 1) rfl; have cra2 := ra_3.cell (j := 2) rfl; have cra3 := ra_3.cell (j := 3) rfl; have crf0 := rf_3.cell (j := 0) rfl; have crf1 := rf_3.cell (j := 1) rfl; have crf2 := rf_3.cell (j := 2) rfl)
          | (with_reducible refine wpList_alloc_row (o := ⟨some 6, _, _, _, _, _⟩) rfl _ rfl zeroH zero_hw ?_; intro w4 z6_4 s4 g4; have k4 : Below w3.heap.size w3 w4 := grown_below g4 (Nat.le_refl _) (by simp); have B4 := B3.trans (k4.mono B3.size); have okh_4 := okh_3.on k4; have rh_4 := rh_3.on k4; have ra_4 := ra_3.on k4; have rf_4 := rf_3.on k4; clear okh_3 rh_3 ra_3 rf_3; have cra0 := ra_4.cell (j := 0) rfl; have cra1 := ra_4.cell (j := 1) rfl; have cra2 := ra_4.cell (j := 2) rfl; have cra3 := ra_4.cell (j := 3) rfl; have crf0 := rf_4.cell (j := 0) rfl; have crf1 := rf_4.cell (j := 1) rfl; have crf2 := rf_4.cell (j := 2) rfl)
          | (with_reducible refine wpList_alloc_row (o := ⟨some 7, _, _, _, _, _⟩) rfl _ rfl zeroR zero_rs ?_; intro w5 z7_5 s5 g5; have k5 : Below w4.heap.size w4 w5 := grown_below g5 (Nat.le_refl _) (by simp); have B5 := B4.trans (k5.mono B4.size); have okh_5 := okh_4.on k5; have rh_5 := rh_4.on k5; have ra_5 := ra_4.on k5; have rf_5 := rf_4.on k5; have z6_5 := z6_4.on k5; clear okh_4 rh_4 ra_4 rf_4 z6_4; have cra0 := ra_5.cell (j := 0) rfl; have cra1 := ra_5.cell (j := 1) rfl; have cra2 := ra_5.cell (j := 2) rfl; have cra3 := ra_5.cell (j := 3) rfl; have crf0 := rf_5.cell (j := 0) rfl; have crf1 := rf_5.cell (j := 1) rfl; have crf2 := rf_5.cell (j := 2) rfl)
          | ((with_reducible refine wpList_at ⟨some 20, _, _, _, _, _⟩ ?_); refine wpList_valueG rfl _ (by exact exec_loadH _ _ rfl (w.heap.size) rfl h H16.out rh_5) ?_)
          | (with_reducible refine wpList_alloc_row (o := ⟨some 9, _, _, _, _, _⟩) rfl _ rfl zeroH zero_hw ?_; intro w6 r6 s6 g6)
          | ((with_reducible refine wpList_at ⟨none, .store _ (.tmp 9) _, _, _, _, _⟩ ?_); refine wpList_store_all rfl _ _ _ rfl w5.heap.size rfl _ _ r6 (h.cs) rfl (h.cs_one) (hw_zl H16.out) (hw_size H16.out) ?_; intro w7 ro_7 g7; have k7 : Below w5.heap.size w5 w7 := below_kept (grown_below g6 (Nat.le_refl _) (by simp)) g7 (Nat.le_of_lt s6) (by rintro q hq; cases hq; exact Nat.le_refl _); have B7 := B5.trans (k7.mono B5.size); have okh_7 := okh_5.on k7; have rh_7 := rh_5.on k7; have ra_7 := ra_5.on k7; have rf_7 := rf_5.on k7; have z6_7 := z6_5.on k7; have z7_7 := z7_5.on k7; clear okh_5 rh_5 ra_5 rf_5 z6_5 z7_5; have cra0 := ra_7.cell (j := 0) rfl; have cra1 := ra_7.cell (j := 1) rfl; have cra2 := ra_7.cell (j := 2) rfl; have cra3 := ra_7.cell (j := 3) rfl; have crf0 := rf_7.cell (j := 0) rfl; have crf1 := rf_7.cell (j := 1) rfl; have crf2 := rf_7.cell (j := 2) rfl; clear r6 g6 g7; have s7 := ro_7.lt)
          | (with_reducible refine wpList_alloc_row (o := ⟨some 10, _, _, _, _, _⟩) rfl _ rfl zeroR zero_rs ?_; intro w8 r8 s8 g8)
          | ((with_reducible refine wpList_at ⟨none, .store _ (.tmp 10) _, _, _, _, _⟩ ?_); refine wpList_store_all rfl _ _ _ rfl w7.heap.size rfl _ _ r8 (noR.cs) rfl (noR.cs_one) rfl (by kernel_rfl) ?_; intro w9 rr_9 g9; have k9 : Below w7.heap.size w7 w9 := below_kept (grown_below g8 (Nat.le_refl _) (by simp)) g9 (Nat.le_of_lt s8) (by rintro q hq; cases hq; exact Nat.le_refl _); have B9 := B7.trans (k9.mono B7.size); have okh_9 := okh_7.on k9; have rh_9 := rh_7.on k9; have ra_9 := ra_7.on k9; have rf_9 := rf_7.on k9; have z6_9 := z6_7.on k9; have z7_9 := z7_7.on k9; have ro_9 := ro_7.on k9; clear okh_7 rh_7 ra_7 rf_7 z6_7 z7_7 ro_7; have cra0 := ra_9.cell (j := 0) rfl; have cra1 := ra_9.cell (j := 1) rfl; have cra2 := ra_9.cell (j := 2) rfl; have cra3 := ra_9.cell (j := 3) rfl; have crf0 := rf_9.cell (j := 0) rfl; have crf1 := rf_9.cell (j := 1) rfl; have crf2 := rf_9.cell (j := 2) rfl; clear r8 g8 g9; have s9 := rr_9.lt)
          | ((with_reducible refine wpList_at ⟨some 35, _, _, _, _, _⟩ ?_); refine wpList_valueG rfl _ (by exact exec_loadHF _ _ rfl (w.heap.size) rfl h rh_9) ?_))
        refine ((HC _ okh_9.1.1).out).mono ?_
        rintro e w10 ⟨rfl, h10⟩
        have B10 := B9.trans (h10.mono B9.size)
        have okh_10 := okh_9.on h10
        have rh_10 := rh_9.on h10
        have ra_10 := ra_9.on h10
        have rf_10 := rf_9.on h10
        have z6_10 := z6_9.on h10
        have z7_10 := z7_9.on h10
        have ro_10 := ro_9.on h10
        have rr_10 := rr_9.on h10
        clear okh_9 rh_9 ra_9 rf_9 z6_9 z7_9 ro_9 rr_9
        have cra0 := ra_10.cell (j := 0) rfl
        have cra1 := ra_10.cell (j := 1) rfl
        have cra2 := ra_10.cell (j := 2) rfl
        have cra3 := ra_10.cell (j := 3) rfl
        have crf0 := rf_10.cell (j := 0) rfl
        have crf1 := rf_10.cell (j := 1) rfl
        have crf2 := rf_10.cell (j := 2) rfl
        have lrh0 := rh_10.lt
        have lro0 := ro_10.lt
        have lrr0 := rr_10.lt
        have lz60 := z6_10.lt
        have lz70 := z7_10.lt
        go_wp2_with (first
          | ((with_reducible refine wpList_at ⟨none, .store _ (.tmp 51) _, _, _, _, _⟩ ?_); refine wpList_store_elem rfl _ _ _ rfl (w7.heap.size) 0 rfl _ _ rr_10 (.int .i64 V) rfl rfl (by show 0 < 2; decide) (by kernel_rfl) ?_; intro wP rr9 gP; have rh_gP := rh_10.kept gP (by simp; omega); have ro_gP := ro_10.kept gP (by simp; omega); have rf_gP := rf_10.kept gP (by simp; omega); have z6_gP := z6_10.kept gP (by simp; omega); have z7_gP := z7_10.kept gP (by simp; omega); have b_gP := below_kept B10 gP B10.size (by rintro q hq; cases hq; omega); have hk9 := okh_10.apart HI1.out gP (by rintro (⟨h1, _⟩ | h1) <;> omega); have crf0 := rf_gP.cell (j := 0) rfl; have crf1 := rf_gP.cell (j := 1) rfl; have crf2 := rf_gP.cell (j := 2) rfl)
          | ((with_reducible refine wpList_at ⟨none, .store _ (.tmp 10) _, _, _, _, _⟩ ?_); refine wpList_store_all rfl _ _ _ rfl (w7.heap.size) rfl _ _ rr9 noR.cs rfl (DvR.cs_one _) rfl (by kernel_rfl) ?_; intro wQ rr8 gQ; have z98 := gP.size; have rh_gQ := rh_gP.kept gQ (by simp; omega); have ro_gQ := ro_gP.kept gQ (by simp; omega); have z6_gQ := z6_gP.kept gQ (by simp; omega); have z7_gQ := z7_gP.kept gQ (by simp; omega); have b_gQ := below_kept b_gP gQ b_gP.size (by rintro q hq; cases hq; omega); have hk8 := hk9.apart HI1.out gQ (by rintro (⟨h1, _⟩ | h1) <;> omega)))
        have z9 := gP.size
        have z8 := gQ.size
        try simp only [Act.put, List.setIfInBounds_toArray, List.set_cons_zero, List.set_cons_succ]
        have b0 : Below w.heap.size w wQ.drew := b_gQ.drew
        have z0 : wQ.drew.heap.size = wQ.heap.size := rfl
        have ra1e := ro_gQ.drew
        have rr1e := rr8.drew
        have z6e := z6_gQ.drew
        have z7e := z7_gQ.drew
        have lz6 := z6e.lt
        have lz7 := z7e.lt
        have hke : HwOK wQ.drew h := hk8
        refine wp_region_plan (fun w' => Row w' (w5.heap.size) 64 (h).cs ∧ Row w' (w7.heap.size) 78 (noR).cs) (.take 0 <| .take 1 <| .one 2 <| .one 3 <| .take 4 <| .done) (by kernel_rfl) (by kernel_rfl) (by kernel_rfl) (fun _ _ _ _ _ h => h) ⟨ra1e, rr1e⟩ ?_
        repeat (refine plan_take _ rfl ?_; (first | ((with_reducible refine wpQuiet_at ⟨some 139, _, _, _, _, _⟩ ?_); refine wpQuiet_valueG rfl _ (by intro _ hS; exact exec_loadH _ _ rfl (w5.heap.size) rfl (h) H16.out hS.1) (wpQuiet_nil ?_); simp only [Act.put, List.setIfInBounds_toArray, List.set_cons_zero, List.set_cons_succ]) | ((with_reducible refine wpQuiet_at ⟨some 140, _, _, _, _, _⟩ ?_); refine wpQuiet_valueG rfl _ (by intro _ hS; exact exec_loadR _ _ rfl (w7.heap.size) rfl (noR) hS.2) (wpQuiet_nil ?_); simp only [Act.put, List.setIfInBounds_toArray, List.set_cons_zero, List.set_cons_succ]) | (go_big_quiet_step ((intros; rfl)); refine wpQuiet_nil ?_)))
        refine plan_one _ rfl fun K hK => ?_
        refine step_store_all rfl _ _ _ rfl (w3.heap.size) rfl _ _ z6e ((h).cs) rfl (Hw.cs_one _) (hw_zl H16.out) (hw_size H16.out) ?_
        intro wu5 ru5 gu5
        have ra1u5 := ra1e.kept gu5 (by simp; omega)
        have rr1u5 := rr1e.kept gu5 (by simp; omega)
        have z7u5 := z7e.kept gu5 (by simp; omega)
        have hku5 := hke.apart HI1.out gu5 (by rintro (⟨h1, _⟩ | h1) <;> omega)
        have bu5 := below_kept b0 gu5 b0.size (by rintro q hq; cases hq; omega)
        refine hK _ _ ⟨ra1u5, rr1u5⟩ ?_
        clear hK K
        simp only [Act.put]
        refine plan_one _ rfl fun K hK => ?_
        refine step_store_all rfl _ _ _ rfl (w4.heap.size) rfl _ _ z7u5 ((noR).cs) rfl (DvR.cs_one _) rfl (by kernel_rfl) ?_
        intro wu6 ru6 gu6
        have ra1u6 := ra1u5.kept gu6 (by simp; omega)
        have rr1u6 := rr1u5.kept gu6 (by simp; omega)
        have z6su6 := ru5.kept gu6 (by simp; omega)
        have hku6 := hku5.apart HI1.out gu6 (by rintro (⟨h1, _⟩ | h1) <;> omega)
        have bu6 := below_kept bu5 gu6 bu5.size (by rintro q hq; cases hq; omega)
        refine hK _ _ ⟨ra1u6, rr1u6⟩ ?_
        clear hK K
        simp only [Act.put]
        repeat (refine plan_take _ rfl ?_; (first | ((with_reducible refine wpQuiet_at ⟨some 139, _, _, _, _, _⟩ ?_); refine wpQuiet_valueG rfl _ (by intro _ hS; exact exec_loadH _ _ rfl (w5.heap.size) rfl (h) H16.out hS.1) (wpQuiet_nil ?_); simp only [Act.put, List.setIfInBounds_toArray, List.set_cons_zero, List.set_cons_succ]) | ((with_reducible refine wpQuiet_at ⟨some 140, _, _, _, _, _⟩ ?_); refine wpQuiet_valueG rfl _ (by intro _ hS; exact exec_loadR _ _ rfl (w7.heap.size) rfl (noR) hS.2) (wpQuiet_nil ?_); simp only [Act.put, List.setIfInBounds_toArray, List.set_cons_zero, List.set_cons_succ]) | (go_big_quiet_step ((intros; rfl)); refine wpQuiet_nil ?_)))
        refine plan_done ?_
        go_wp2_with fail
        refine bodyPost_ret (results_cells2 Try.results28 _ _ _ _ _ _ rfl rfl (load_hw z6su6 H16.out) (load_rs ru6)) rfl ⟨h, rfl, hku6, HI1.out.weak (fun q hq => by rcases hq with h1 | h1; exact .inl h1.2; exact .inr (by omega)), rfl, bu6⟩
      | false =>
        rw [dvRs_fuse hb rfl rfl]
        show Calls _ _ _ _ (GivesD X h.s ⟨fuRead (bk h.ps) b c nz, noB⟩ 0 w)
        generalize fuRead (bk h.ps) b c nz = V at *
        clear hb hs he he'
        go_enter Try.func28, Try.ntmps28
        go_wp2_with (first
          | ((with_reducible refine wpList_at ⟨some 3, _, _, _, _, _⟩ ?_); refine wpList_box_row rfl _ _ rfl (h.cs) rfl ?_; intro w1 rh_1 s1 g1; have k1 : Below w.heap.size w w1 := grown_below g1 (Nat.le_refl _) (by simp); have B1 : Below w.heap.size w w1 := k1; have okh_1 := hok.on k1)
          | ((with_reducible refine wpList_at ⟨some 4, _, _, _, _, _⟩ ?_); refine wpList_box_row rfl _ _ rfl ((⟨1, b, c, ⟨#[]⟩⟩ : DvA).cs) rfl ?_; intro w2 ra_2 s2 g2; have k2 : Below w1.heap.size w1 w2 := grown_below g2 (Nat.le_refl _) (by simp); have B2 := B1.trans (k2.mono B1.size); have okh_2 := okh_1.on k2; have rh_2 := rh_1.on k2; clear okh_1 rh_1; have cra0 := ra_2.cell (j := 0) rfl; have cra1 := ra_2.cell (j := 1) rfl; have cra2 := ra_2.cell (j := 2) rfl; have cra3 := ra_2.cell (j := 3) rfl)
          | ((with_reducible refine wpList_at ⟨some 5, _, _, _, _, _⟩ ?_); refine wpList_box_row rfl _ _ rfl ((⟨false, n, nz⟩ : DvF).cs) rfl ?_; intro w3 rf_3 s3 g3; have k3 : Below w2.heap.size w2 w3 := grown_below g3 (Nat.le_refl _) (by simp); have B3 := B2.trans (k3.mono B2.size); have okh_3 := okh_2.on k3; have rh_3 := rh_2.on k3; have ra_3 := ra_2.on k3; clear okh_2 rh_2 ra_2; have cra0 := ra_3.cell (j := 0) rfl; have cra1 := ra_3.cell (j := 1) rfl; have cra2 := ra_3.cell (j := 2) rfl; have cra3 := ra_3.cell (j := 3) rfl; have crf0 := rf_3.cell (j := 0) rfl; have crf1 := rf_3.cell (j := 1) rfl; have crf2 := rf_3.cell (j := 2) rfl)
          | (with_reducible refine wpList_alloc_row (o := ⟨some 6, _, _, _, _, _⟩) rfl _ rfl zeroH zero_hw ?_; intro w4 z6_4 s4 g4; have k4 : Below w3.heap.size w3 w4 := grown_below g4 (Nat.le_refl _) (by simp); have B4 := B3.trans (k4.mono B3.size); have okh_4 := okh_3.on k4; have rh_4 := rh_3.on k4; have ra_4 := ra_3.on k4; have rf_4 := rf_3.on k4; clear okh_3 rh_3 ra_3 rf_3; have cra0 := ra_4.cell (j := 0) rfl; have cra1 := ra_4.cell (j := 1) rfl; have cra2 := ra_4.cell (j := 2) rfl; have cra3 := ra_4.cell (j := 3) rfl; have crf0 := rf_4.cell (j := 0) rfl; have crf1 := rf_4.cell (j := 1) rfl; have crf2 := rf_4.cell (j := 2) rfl)
          | (with_reducible refine wpList_alloc_row (o := ⟨some 7, _, _, _, _, _⟩) rfl _ rfl zeroR zero_rs ?_; intro w5 z7_5 s5 g5; have k5 : Below w4.heap.size w4 w5 := grown_below g5 (Nat.le_refl _) (by simp); have B5 := B4.trans (k5.mono B4.size); have okh_5 := okh_4.on k5; have rh_5 := rh_4.on k5; have ra_5 := ra_4.on k5; have rf_5 := rf_4.on k5; have z6_5 := z6_4.on k5; clear okh_4 rh_4 ra_4 rf_4 z6_4; have cra0 := ra_5.cell (j := 0) rfl; have cra1 := ra_5.cell (j := 1) rfl; have cra2 := ra_5.cell (j := 2) rfl; have cra3 := ra_5.cell (j := 3) rfl; have crf0 := rf_5.cell (j := 0) rfl; have crf1 := rf_5.cell (j := 1) rfl; have crf2 := rf_5.cell (j := 2) rfl)
          | ((with_reducible refine wpList_at ⟨some 20, _, _, _, _, _⟩ ?_); refine wpList_valueG rfl _ (by exact exec_loadH _ _ rfl (w.heap.size) rfl h H16.out rh_5) ?_)
          | (with_reducible refine wpList_alloc_row (o := ⟨some 9, _, _, _, _, _⟩) rfl _ rfl zeroH zero_hw ?_; intro w6 r6 s6 g6)
          | ((with_reducible refine wpList_at ⟨none, .store _ (.tmp 9) _, _, _, _, _⟩ ?_); refine wpList_store_all rfl _ _ _ rfl w5.heap.size rfl _ _ r6 (h.cs) rfl (h.cs_one) (hw_zl H16.out) (hw_size H16.out) ?_; intro w7 ro_7 g7; have k7 : Below w5.heap.size w5 w7 := below_kept (grown_below g6 (Nat.le_refl _) (by simp)) g7 (Nat.le_of_lt s6) (by rintro q hq; cases hq; exact Nat.le_refl _); have B7 := B5.trans (k7.mono B5.size); have okh_7 := okh_5.on k7; have rh_7 := rh_5.on k7; have ra_7 := ra_5.on k7; have rf_7 := rf_5.on k7; have z6_7 := z6_5.on k7; have z7_7 := z7_5.on k7; clear okh_5 rh_5 ra_5 rf_5 z6_5 z7_5; have cra0 := ra_7.cell (j := 0) rfl; have cra1 := ra_7.cell (j := 1) rfl; have cra2 := ra_7.cell (j := 2) rfl; have cra3 := ra_7.cell (j := 3) rfl; have crf0 := rf_7.cell (j := 0) rfl; have crf1 := rf_7.cell (j := 1) rfl; have crf2 := rf_7.cell (j := 2) rfl; clear r6 g6 g7; have s7 := ro_7.lt)
          | (with_reducible refine wpList_alloc_row (o := ⟨some 10, _, _, _, _, _⟩) rfl _ rfl zeroR zero_rs ?_; intro w8 r8 s8 g8)
          | ((with_reducible refine wpList_at ⟨none, .store _ (.tmp 10) _, _, _, _, _⟩ ?_); refine wpList_store_all rfl _ _ _ rfl w7.heap.size rfl _ _ r8 (noR.cs) rfl (noR.cs_one) rfl (by kernel_rfl) ?_; intro w9 rr_9 g9; have k9 : Below w7.heap.size w7 w9 := below_kept (grown_below g8 (Nat.le_refl _) (by simp)) g9 (Nat.le_of_lt s8) (by rintro q hq; cases hq; exact Nat.le_refl _); have B9 := B7.trans (k9.mono B7.size); have okh_9 := okh_7.on k9; have rh_9 := rh_7.on k9; have ra_9 := ra_7.on k9; have rf_9 := rf_7.on k9; have z6_9 := z6_7.on k9; have z7_9 := z7_7.on k9; have ro_9 := ro_7.on k9; clear okh_7 rh_7 ra_7 rf_7 z6_7 z7_7 ro_7; have cra0 := ra_9.cell (j := 0) rfl; have cra1 := ra_9.cell (j := 1) rfl; have cra2 := ra_9.cell (j := 2) rfl; have cra3 := ra_9.cell (j := 3) rfl; have crf0 := rf_9.cell (j := 0) rfl; have crf1 := rf_9.cell (j := 1) rfl; have crf2 := rf_9.cell (j := 2) rfl; clear r8 g8 g9; have s9 := rr_9.lt)
          | ((with_reducible refine wpList_at ⟨some 35, _, _, _, _, _⟩ ?_); refine wpList_valueG rfl _ (by exact exec_loadHF _ _ rfl (w.heap.size) rfl h rh_9) ?_))
        refine ((HC _ okh_9.1.1).out).mono ?_
        rintro e w10 ⟨rfl, h10⟩
        have B10 := B9.trans (h10.mono B9.size)
        have okh_10 := okh_9.on h10
        have rh_10 := rh_9.on h10
        have ra_10 := ra_9.on h10
        have rf_10 := rf_9.on h10
        have z6_10 := z6_9.on h10
        have z7_10 := z7_9.on h10
        have ro_10 := ro_9.on h10
        have rr_10 := rr_9.on h10
        clear okh_9 rh_9 ra_9 rf_9 z6_9 z7_9 ro_9 rr_9
        have cra0 := ra_10.cell (j := 0) rfl
        have cra1 := ra_10.cell (j := 1) rfl
        have cra2 := ra_10.cell (j := 2) rfl
        have cra3 := ra_10.cell (j := 3) rfl
        have crf0 := rf_10.cell (j := 0) rfl
        have crf1 := rf_10.cell (j := 1) rfl
        have crf2 := rf_10.cell (j := 2) rfl
        have lrh0 := rh_10.lt
        have lro0 := ro_10.lt
        have lrr0 := rr_10.lt
        have lz60 := z6_10.lt
        have lz70 := z7_10.lt
        go_wp2_with ((with_reducible refine wpList_at ⟨none, .store _ (.tmp 51) _, _, _, _, _⟩ ?_); refine wpList_store_elem rfl _ _ _ rfl (w7.heap.size) 0 rfl _ _ rr_10 (.int .i64 V) rfl rfl (by show 0 < 2; decide) (by kernel_rfl) ?_; intro wP rr9 gP; have rh_gP := rh_10.kept gP (by simp; omega); have ro_gP := ro_10.kept gP (by simp; omega); have rf_gP := rf_10.kept gP (by simp; omega); have z6_gP := z6_10.kept gP (by simp; omega); have z7_gP := z7_10.kept gP (by simp; omega); have b_gP := below_kept B10 gP B10.size (by rintro q hq; cases hq; omega); have hk9 := okh_10.apart HI1.out gP (by rintro (⟨h1, _⟩ | h1) <;> omega); have crf0 := rf_gP.cell (j := 0) rfl; have crf1 := rf_gP.cell (j := 1) rfl; have crf2 := rf_gP.cell (j := 2) rfl)
        have z9 := gP.size
        try simp only [Act.put, List.setIfInBounds_toArray, List.set_cons_zero, List.set_cons_succ]
        have b0 : Below w.heap.size w wP.drew := b_gP.drew
        have z0 : wP.drew.heap.size = wP.heap.size := rfl
        have ra1e := ro_gP.drew
        have rr1e := rr9.drew
        have z6e := z6_gP.drew
        have z7e := z7_gP.drew
        have lz6 := z6e.lt
        have lz7 := z7e.lt
        have hke : HwOK wP.drew h := hk9
        refine wp_region_plan (fun w' => Row w' (w5.heap.size) 64 (h).cs ∧ Row w' (w7.heap.size) 78 ((⟨V, noB⟩ : DvR)).cs) (.take 0 <| .take 1 <| .one 2 <| .one 3 <| .take 4 <| .done) (by kernel_rfl) (by kernel_rfl) (by kernel_rfl) (fun _ _ _ _ _ h => h) ⟨ra1e, rr1e⟩ ?_
        repeat (refine plan_take _ rfl ?_; (first | ((with_reducible refine wpQuiet_at ⟨some 139, _, _, _, _, _⟩ ?_); refine wpQuiet_valueG rfl _ (by intro _ hS; exact exec_loadH _ _ rfl (w5.heap.size) rfl (h) H16.out hS.1) (wpQuiet_nil ?_); simp only [Act.put, List.setIfInBounds_toArray, List.set_cons_zero, List.set_cons_succ]) | ((with_reducible refine wpQuiet_at ⟨some 140, _, _, _, _, _⟩ ?_); refine wpQuiet_valueG rfl _ (by intro _ hS; exact exec_loadR _ _ rfl (w7.heap.size) rfl ((⟨V, noB⟩ : DvR)) hS.2) (wpQuiet_nil ?_); simp only [Act.put, List.setIfInBounds_toArray, List.set_cons_zero, List.set_cons_succ]) | (go_big_quiet_step ((intros; rfl)); refine wpQuiet_nil ?_)))
        refine plan_one _ rfl fun K hK => ?_
        refine step_store_all rfl _ _ _ rfl (w3.heap.size) rfl _ _ z6e ((h).cs) rfl (Hw.cs_one _) (hw_zl H16.out) (hw_size H16.out) ?_
        intro wu7 ru7 gu7
        have ra1u7 := ra1e.kept gu7 (by simp; omega)
        have rr1u7 := rr1e.kept gu7 (by simp; omega)
        have z7u7 := z7e.kept gu7 (by simp; omega)
        have hku7 := hke.apart HI1.out gu7 (by rintro (⟨h1, _⟩ | h1) <;> omega)
        have bu7 := below_kept b0 gu7 b0.size (by rintro q hq; cases hq; omega)
        refine hK _ _ ⟨ra1u7, rr1u7⟩ ?_
        clear hK K
        simp only [Act.put]
        refine plan_one _ rfl fun K hK => ?_
        refine step_store_all rfl _ _ _ rfl (w4.heap.size) rfl _ _ z7u7 (((⟨V, noB⟩ : DvR)).cs) rfl (DvR.cs_one _) rfl (by kernel_rfl) ?_
        intro wu8 ru8 gu8
        have ra1u8 := ra1u7.kept gu8 (by simp; omega)
        have rr1u8 := rr1u7.kept gu8 (by simp; omega)
        have z6su8 := ru7.kept gu8 (by simp; omega)
        have hku8 := hku7.apart HI1.out gu8 (by rintro (⟨h1, _⟩ | h1) <;> omega)
        have bu8 := below_kept bu7 gu8 bu7.size (by rintro q hq; cases hq; omega)
        refine hK _ _ ⟨ra1u8, rr1u8⟩ ?_
        clear hK K
        simp only [Act.put]
        repeat (refine plan_take _ rfl ?_; (first | ((with_reducible refine wpQuiet_at ⟨some 139, _, _, _, _, _⟩ ?_); refine wpQuiet_valueG rfl _ (by intro _ hS; exact exec_loadH _ _ rfl (w5.heap.size) rfl (h) H16.out hS.1) (wpQuiet_nil ?_); simp only [Act.put, List.setIfInBounds_toArray, List.set_cons_zero, List.set_cons_succ]) | ((with_reducible refine wpQuiet_at ⟨some 140, _, _, _, _, _⟩ ?_); refine wpQuiet_valueG rfl _ (by intro _ hS; exact exec_loadR _ _ rfl (w7.heap.size) rfl ((⟨V, noB⟩ : DvR)) hS.2) (wpQuiet_nil ?_); simp only [Act.put, List.setIfInBounds_toArray, List.set_cons_zero, List.set_cons_succ]) | (go_big_quiet_step ((intros; rfl)); refine wpQuiet_nil ?_)))
        refine plan_done ?_
        go_wp2_with fail
        refine bodyPost_ret (results_cells2 Try.results28 _ _ _ _ _ _ rfl rfl (load_hw z6su8 H16.out) (load_rs ru8)) rfl ⟨h, rfl, hku8, HI1.out.weak (fun q hq => by rcases hq with h1 | h1; exact .inl h1.2; exact .inr (by omega)), rfl, bu8⟩
end Go.Proofs.Ytfcbcclcmgheeaa
