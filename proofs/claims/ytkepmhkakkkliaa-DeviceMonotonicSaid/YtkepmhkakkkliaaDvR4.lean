/-
  What the reference's Do returns: a contract by a walk. Condition: bounded lengths.
-/
import Derived.Test.YtkepmhkakkkliaaDvR4e
import Derived.Test.YtkepmhkakkkliaaDvR4o
namespace Go.Proofs.Ytkepmhkakkkliaa
open Go.RowKit

set_option maxRecDepth 100000 in
set_option maxHeartbeats 4000000 in
theorem rdo4_any (X : Nat → Prop) (h : Hw) (b c : Int) (s : ByteArray) (f : DvF) (w : World) (hX : HwIn X h) (hok : HwOK w h) (hs : dvSm h.s) :
    Calls Try.prog 11 #[h.v, (⟨4, b, c, s⟩ : DvA).v, f.v] w (GivesD X (dvSt h.s ⟨4, b, c, s⟩ f) (dvRs h.s ⟨4, b, c, s⟩ f) (dvErr h.s ⟨4, b, c, s⟩) w) := by
  by_cases hb0 : b = 0
  · subst hb0
    by_cases he : dvErr h.s ⟨4, 0, c, s⟩ = 0
    · exact rdo4o_any X h c s f w hX hok hs he
    · exact rdo4e_any X h c s f w hX hok hs he
  have H16 := Lib.hid hok.h16
  have HIX := Lib.hid (hok.in_.and hX)
  have HI1 : Hid (HwIn (fun q => (q < w.heap.size ∧ X q) ∨ (w.heap.size < q ∧ q < w.heap.size)) h) := Lib.hid (HIX.out.weak (fun q hq => .inl hq))
  clear hX
  have hb : dvBad ⟨4, b, c, s⟩ = true := by rw [dvBad_write rfl]; exact decide_eq_true hb0
  have hq : (b != 0) = true := by simpa using hb0
  clear hb0
  have HE : Hid (dvErr h.s ⟨4, b, c, s⟩ = 1) := Lib.hid (dvErr_bad hb)
  rw [dvSt_bad hb, dvRs_bad hb]
  generalize dvErr h.s ⟨4, b, c, s⟩ = E at *
  obtain ⟨cut, n, nz⟩ := f
  clear hb hs
  go_enter Try.func11, Try.ntmps11
  go_wp2_with (first
    | ((with_reducible refine wpList_at ⟨some 3, _, _, _, _, _⟩ ?_); refine wpList_box_row rfl _ _ rfl (h.cs) rfl ?_; intro w1 rh_1 s1 g1; have k1 : Below w.heap.size w w1 := grown_below g1 (Nat.le_refl _) (by simp); have B1 : Below w.heap.size w w1 := k1; have okh_1 := hok.on k1)
    | ((with_reducible refine wpList_at ⟨some 4, _, _, _, _, _⟩ ?_); refine wpList_box_row rfl _ _ rfl ((⟨4, b, c, s⟩ : DvA).cs) rfl ?_; intro w2 ra_2 s2 g2; have k2 : Below w1.heap.size w1 w2 := grown_below g2 (Nat.le_refl _) (by simp); have B2 := B1.trans (k2.mono B1.size); have okh_2 := okh_1.on k2; have rh_2 := rh_1.on k2; clear okh_1 rh_1; have cra0 := ra_2.cell (j := 0) rfl; have cra1 := ra_2.cell (j := 1) rfl; have cra2 := ra_2.cell (j := 2) rfl; have cra3 := ra_2.cell (j := 3) rfl)
    | ((with_reducible refine wpList_at ⟨some 5, _, _, _, _, _⟩ ?_); refine wpList_box_row rfl _ _ rfl ((⟨cut, n, nz⟩ : DvF).cs) rfl ?_; intro w3 rf_3 s3 g3; have k3 : Below w2.heap.size w2 w3 := grown_below g3 (Nat.le_refl _) (by simp); have B3 := B2.trans (k3.mono B2.size); have okh_3 := okh_2.on k3; have rh_3 := rh_2.on k3; have ra_3 := ra_2.on k3; clear okh_2 rh_2 ra_2; have cra0 := ra_3.cell (j := 0) rfl; have cra1 := ra_3.cell (j := 1) rfl; have cra2 := ra_3.cell (j := 2) rfl; have cra3 := ra_3.cell (j := 3) rfl; have crf0 := rf_3.cell (j := 0) rfl; have crf1 := rf_3.cell (j := 1) rfl; have crf2 := rf_3.cell (j := 2) rfl)
    | (with_reducible refine wpList_alloc_row (o := ⟨some 6, _, _, _, _, _⟩) rfl _ rfl zeroH zero_hw ?_; intro w4 z6_4 s4 g4; have k4 : Below w3.heap.size w3 w4 := grown_below g4 (Nat.le_refl _) (by simp); have B4 := B3.trans (k4.mono B3.size); have okh_4 := okh_3.on k4; have rh_4 := rh_3.on k4; have ra_4 := ra_3.on k4; have rf_4 := rf_3.on k4; clear okh_3 rh_3 ra_3 rf_3; have cra0 := ra_4.cell (j := 0) rfl; have cra1 := ra_4.cell (j := 1) rfl; have cra2 := ra_4.cell (j := 2) rfl; have cra3 := ra_4.cell (j := 3) rfl; have crf0 := rf_4.cell (j := 0) rfl; have crf1 := rf_4.cell (j := 1) rfl; have crf2 := rf_4.cell (j := 2) rfl)
    | (with_reducible refine wpList_alloc_row (o := ⟨some 7, _, _, _, _, _⟩) rfl _ rfl zeroR zero_rs ?_; intro w5 z7_5 s5 g5; have k5 : Below w4.heap.size w4 w5 := grown_below g5 (Nat.le_refl _) (by simp); have B5 := B4.trans (k5.mono B4.size); have okh_5 := okh_4.on k5; have rh_5 := rh_4.on k5; have ra_5 := ra_4.on k5; have rf_5 := rf_4.on k5; have z6_5 := z6_4.on k5; clear okh_4 rh_4 ra_4 rf_4 z6_4; have cra0 := ra_5.cell (j := 0) rfl; have cra1 := ra_5.cell (j := 1) rfl; have cra2 := ra_5.cell (j := 2) rfl; have cra3 := ra_5.cell (j := 3) rfl; have crf0 := rf_5.cell (j := 0) rfl; have crf1 := rf_5.cell (j := 1) rfl; have crf2 := rf_5.cell (j := 2) rfl)
    | ((with_reducible refine wpList_at ⟨some 20, _, _, _, _, _⟩ ?_); refine wpList_valueG rfl _ (by exact exec_loadH _ _ rfl (w.heap.size) rfl h H16.out rh_5) ?_)
    | (with_reducible refine wpList_alloc_row (o := ⟨some 9, _, _, _, _, _⟩) rfl _ rfl zeroH zero_hw ?_; intro w6 r6 s6 g6)
    | ((with_reducible refine wpList_at ⟨none, .store _ (.tmp 9) _, _, _, _, _⟩ ?_); refine wpList_store_all rfl _ _ _ rfl w5.heap.size rfl _ _ r6 (h.cs) rfl (h.cs_one) (hw_zl H16.out) (hw_size H16.out) ?_; intro w7 ro_7 g7; have k7 : Below w5.heap.size w5 w7 := below_kept (grown_below g6 (Nat.le_refl _) (by simp)) g7 (Nat.le_of_lt s6) (by rintro q hq; cases hq; exact Nat.le_refl _); have B7 := B5.trans (k7.mono B5.size); have okh_7 := okh_5.on k7; have rh_7 := rh_5.on k7; have ra_7 := ra_5.on k7; have rf_7 := rf_5.on k7; have z6_7 := z6_5.on k7; have z7_7 := z7_5.on k7; clear okh_5 rh_5 ra_5 rf_5 z6_5 z7_5; have cra0 := ra_7.cell (j := 0) rfl; have cra1 := ra_7.cell (j := 1) rfl; have cra2 := ra_7.cell (j := 2) rfl; have cra3 := ra_7.cell (j := 3) rfl; have crf0 := rf_7.cell (j := 0) rfl; have crf1 := rf_7.cell (j := 1) rfl; have crf2 := rf_7.cell (j := 2) rfl; clear r6 g6 g7; have s7 := ro_7.lt)
    | (with_reducible refine wpList_alloc_row (o := ⟨some 10, _, _, _, _, _⟩) rfl _ rfl zeroR zero_rs ?_; intro w8 r8 s8 g8)
    | ((with_reducible refine wpList_at ⟨none, .store _ (.tmp 10) _, _, _, _, _⟩ ?_); refine wpList_store_all rfl _ _ _ rfl w7.heap.size rfl _ _ r8 (noR.cs) rfl (noR.cs_one) rfl (by kernel_rfl) ?_; intro w9 rr_9 g9; have k9 : Below w7.heap.size w7 w9 := below_kept (grown_below g8 (Nat.le_refl _) (by simp)) g9 (Nat.le_of_lt s8) (by rintro q hq; cases hq; exact Nat.le_refl _); have B9 := B7.trans (k9.mono B7.size); have okh_9 := okh_7.on k9; have rh_9 := rh_7.on k9; have ra_9 := ra_7.on k9; have rf_9 := rf_7.on k9; have z6_9 := z6_7.on k9; have z7_9 := z7_7.on k9; have ro_9 := ro_7.on k9; clear okh_7 rh_7 ra_7 rf_7 z6_7 z7_7 ro_7; have cra0 := ra_9.cell (j := 0) rfl; have cra1 := ra_9.cell (j := 1) rfl; have cra2 := ra_9.cell (j := 2) rfl; have cra3 := ra_9.cell (j := 3) rfl; have crf0 := rf_9.cell (j := 0) rfl; have crf1 := rf_9.cell (j := 1) rfl; have crf2 := rf_9.cell (j := 2) rfl; clear r8 g8 g9; have s9 := rr_9.lt))
  try simp only [Act.put, List.setIfInBounds_toArray, List.set_cons_zero, List.set_cons_succ]
  have b0 : Below w.heap.size w w9.drew := B9.drew
  have z0 : w9.drew.heap.size = w9.heap.size := rfl
  have ra1e := rh_9.drew
  have rr1e := rr_9.drew
  have z6e := z6_9.drew
  have z7e := z7_9.drew
  have lz6 := z6e.lt
  have lz7 := z7e.lt
  have hke : HwOK w9.drew h := okh_9
  refine wp_region_plan (fun w' => Row w' (w.heap.size) 31 (h).cs ∧ Row w' (w7.heap.size) 40 (noR).cs) (.take 0 <| .take 1 <| .one 2 <| .one 3 <| .take 4 <| .done) (by kernel_rfl) (by kernel_rfl) (by kernel_rfl) (fun _ _ _ _ _ h => h) ⟨ra1e, rr1e⟩ ?_
  repeat (refine plan_take _ rfl ?_; (first | ((with_reducible refine wpQuiet_at ⟨some 110, _, _, _, _, _⟩ ?_); refine wpQuiet_valueG rfl _ (by intro _ hS; exact exec_loadH _ _ rfl (w.heap.size) rfl (h) H16.out hS.1) (wpQuiet_nil ?_); simp only [Act.put, List.setIfInBounds_toArray, List.set_cons_zero, List.set_cons_succ]) | ((with_reducible refine wpQuiet_at ⟨some 111, _, _, _, _, _⟩ ?_); refine wpQuiet_valueG rfl _ (by intro _ hS; exact exec_loadR _ _ rfl (w7.heap.size) rfl (noR) hS.2) (wpQuiet_nil ?_); simp only [Act.put, List.setIfInBounds_toArray, List.set_cons_zero, List.set_cons_succ]) | (go_big_quiet_step ((intros; rfl)); refine wpQuiet_nil ?_)))
  refine plan_one _ rfl fun K hK => ?_
  refine step_store_all rfl _ _ _ rfl (w3.heap.size) rfl _ _ z6e ((h).cs) rfl (Hw.cs_one _) (hw_zl H16.out) (hw_size H16.out) ?_
  intro wu35 ru35 gu35
  have ra1u35 := ra1e.kept gu35 (by simp; omega)
  have rr1u35 := rr1e.kept gu35 (by simp; omega)
  have z7u35 := z7e.kept gu35 (by simp; omega)
  have hku35 := hke.apart HI1.out gu35 (by rintro (⟨h1, _⟩ | h1) <;> omega)
  have bu35 := below_kept b0 gu35 b0.size (by rintro q hq; cases hq; omega)
  refine hK _ _ ⟨ra1u35, rr1u35⟩ ?_
  clear hK K
  simp only [Act.put]
  refine plan_one _ rfl fun K hK => ?_
  refine step_store_all rfl _ _ _ rfl (w4.heap.size) rfl _ _ z7u35 ((noR).cs) rfl (DvR.cs_one _) rfl (by kernel_rfl) ?_
  intro wu36 ru36 gu36
  have ra1u36 := ra1u35.kept gu36 (by simp; omega)
  have rr1u36 := rr1u35.kept gu36 (by simp; omega)
  have z6su36 := ru35.kept gu36 (by simp; omega)
  have hku36 := hku35.apart HI1.out gu36 (by rintro (⟨h1, _⟩ | h1) <;> omega)
  have bu36 := below_kept bu35 gu36 bu35.size (by rintro q hq; cases hq; omega)
  refine hK _ _ ⟨ra1u36, rr1u36⟩ ?_
  clear hK K
  simp only [Act.put]
  repeat (refine plan_take _ rfl ?_; (first | ((with_reducible refine wpQuiet_at ⟨some 110, _, _, _, _, _⟩ ?_); refine wpQuiet_valueG rfl _ (by intro _ hS; exact exec_loadH _ _ rfl (w.heap.size) rfl (h) H16.out hS.1) (wpQuiet_nil ?_); simp only [Act.put, List.setIfInBounds_toArray, List.set_cons_zero, List.set_cons_succ]) | ((with_reducible refine wpQuiet_at ⟨some 111, _, _, _, _, _⟩ ?_); refine wpQuiet_valueG rfl _ (by intro _ hS; exact exec_loadR _ _ rfl (w7.heap.size) rfl (noR) hS.2) (wpQuiet_nil ?_); simp only [Act.put, List.setIfInBounds_toArray, List.set_cons_zero, List.set_cons_succ]) | (go_big_quiet_step ((intros; rfl)); refine wpQuiet_nil ?_)))
  refine plan_done ?_
  go_wp2_with fail
  refine bodyPost_ret (results_cells2 Try.results11 _ _ _ _ _ _ rfl rfl (load_hw z6su36 H16.out) (load_rs ru36)) rfl ⟨h, by rw [HE.out]; rfl, hku36, HI1.out.weak (fun q hq => by rcases hq with h1 | h1; exact .inl h1.2; exact .inr (by omega)), rfl, bu36⟩
end Go.Proofs.Ytkepmhkakkkliaa
