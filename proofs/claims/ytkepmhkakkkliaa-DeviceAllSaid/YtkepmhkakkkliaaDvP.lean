/-
  What device.writeSector returns: a contract by a walk. Condition: bounded lengths.
-/
import Derived.Test.YtkepmhkakkkliaaDvO
import Derived.Deep.DeepCutAuto
namespace Go.Proofs.Ytkepmhkakkkliaa
open Go.RowKit

set_option maxRecDepth 100000 in
set_option maxHeartbeats 4000000 in
theorem writeSector_any (X : Nat → Prop) (h : Hw) (a : DvA) (f : DvF) (w : World) (hX : HwIn X h) (hok : HwOK w h) (hs : dvSm h.s) :
    Calls Try.prog 54 #[h.v, a.v, f.v] w (GivesD X { h.s with fs := flWrite h.s.fs a.c a.s (dvCut f) } noR (flWErr h.s.fs a.c a.s) w) := by
  have HN := Lib.hid (hok.sm3 hs)
  have H16 := Lib.hid hok.h16
  have HXI := Lib.hid hX
  have HI0 := Lib.hid hok.in_
  obtain ⟨k, b, c, s⟩ := a
  have HC := fun W hW => Lib.hid (lwrite_own h.B h.m h.d h.fs c s (dvN f) W hW HN.out)
  rw [flWrite_dvN] at HC
  show Calls _ _ _ _ (GivesD X ⟨bk h.ps, flWrite h.fs c s (dvCut f), h.rt⟩ noR (flWErr h.fs c s) w)
  generalize flWrite h.fs c s (dvCut f) = V at *
  generalize flWErr h.fs c s = E at *
  obtain ⟨cut, n, nz⟩ := f
  clear hX hs
  go_enter Try.func54, Try.ntmps54
  go_wp2_with (first
    | ((with_reducible refine wpList_at ⟨some 3, _, _, _, _, _⟩ ?_); refine wpList_box_row rfl _ _ rfl (h.cs) rfl ?_; intro w1 rh_1 s1 g1; have k1 : Below w.heap.size w w1 := grown_below g1 (Nat.le_refl _) (by simp); have B1 : Below w.heap.size w w1 := k1; have okh_1 := hok.on k1)
    | ((with_reducible refine wpList_at ⟨some 4, _, _, _, _, _⟩ ?_); refine wpList_box_row rfl _ _ rfl ((⟨k, b, c, s⟩ : DvA).cs) rfl ?_; intro w2 ra_2 s2 g2; have k2 : Below w1.heap.size w1 w2 := grown_below g2 (Nat.le_refl _) (by simp); have B2 := B1.trans (k2.mono B1.size); have okh_2 := okh_1.on k2; have rh_2 := rh_1.on k2; clear okh_1 rh_1; have cra0 := ra_2.cell (j := 0) rfl; have cra1 := ra_2.cell (j := 1) rfl; have cra2 := ra_2.cell (j := 2) rfl; have cra3 := ra_2.cell (j := 3) rfl)
    | ((with_reducible refine wpList_at ⟨some 5, _, _, _, _, _⟩ ?_); refine wpList_box_row rfl _ _ rfl ((⟨cut, n, nz⟩ : DvF).cs) rfl ?_; intro w3 rf_3 s3 g3; have k3 : Below w2.heap.size w2 w3 := grown_below g3 (Nat.le_refl _) (by simp); have B3 := B2.trans (k3.mono B2.size); have okh_3 := okh_2.on k3; have rh_3 := rh_2.on k3; have ra_3 := ra_2.on k3; clear okh_2 rh_2 ra_2; have cra0 := ra_3.cell (j := 0) rfl; have cra1 := ra_3.cell (j := 1) rfl; have cra2 := ra_3.cell (j := 2) rfl; have cra3 := ra_3.cell (j := 3) rfl; have crf0 := rf_3.cell (j := 0) rfl; have crf1 := rf_3.cell (j := 1) rfl; have crf2 := rf_3.cell (j := 2) rfl)
    | (with_reducible refine wpList_alloc_row (o := ⟨some 6, _, _, _, _, _⟩) rfl _ rfl zeroH zero_hw ?_; intro w4 z6_4 s4 g4; have k4 : Below w3.heap.size w3 w4 := grown_below g4 (Nat.le_refl _) (by simp); have B4 := B3.trans (k4.mono B3.size); have okh_4 := okh_3.on k4; have rh_4 := rh_3.on k4; have ra_4 := ra_3.on k4; have rf_4 := rf_3.on k4; clear okh_3 rh_3 ra_3 rf_3; have cra0 := ra_4.cell (j := 0) rfl; have cra1 := ra_4.cell (j := 1) rfl; have cra2 := ra_4.cell (j := 2) rfl; have cra3 := ra_4.cell (j := 3) rfl; have crf0 := rf_4.cell (j := 0) rfl; have crf1 := rf_4.cell (j := 1) rfl; have crf2 := rf_4.cell (j := 2) rfl)
    | (with_reducible refine wpList_alloc_row (o := ⟨some 7, _, _, _, _, _⟩) rfl _ rfl zeroR zero_rs ?_; intro w5 z7_5 s5 g5; have k5 : Below w4.heap.size w4 w5 := grown_below g5 (Nat.le_refl _) (by simp); have B5 := B4.trans (k5.mono B4.size); have okh_5 := okh_4.on k5; have rh_5 := rh_4.on k5; have ra_5 := ra_4.on k5; have rf_5 := rf_4.on k5; have z6_5 := z6_4.on k5; clear okh_4 rh_4 ra_4 rf_4 z6_4; have cra0 := ra_5.cell (j := 0) rfl; have cra1 := ra_5.cell (j := 1) rfl; have cra2 := ra_5.cell (j := 2) rfl; have cra3 := ra_5.cell (j := 3) rfl; have crf0 := rf_5.cell (j := 0) rfl; have crf1 := rf_5.cell (j := 1) rfl; have crf2 := rf_5.cell (j := 2) rfl))
  try simp only [Act.put, List.setIfInBounds_toArray, List.set_cons_zero, List.set_cons_succ]
  go_cut [9, 10] (fun s1 s2 wc => ∃ g B' m' d', s1 = .pointer (some ⟨g, 0, none⟩) ∧ s2 = .int .i64 E ∧ Row wc g 27 [.slice B' m' d'] ∧ FlOK wc B' m' d' V ∧ LIn (fun q => w5.heap.size ≤ q) B' m' ∧ w5.heap.size ≤ g ∧ Below w5.heap.size w5 wc)
  case first =>
    have b0 : Below w5.heap.size w5 w5.drew := (Below.refl _ _).drew
    have z0 : w5.drew.heap.size = w5.heap.size := rfl
    have rhd := rh_5.drew
    have rad := ra_5.drew
    have rfd := rf_5.drew
    have okd : HwOK w5.drew h := okh_5
    have lrh := rh_5.lt
    have lra := ra_5.lt
    have lrf := rf_5.lt
    refine wp_region_plan (fun w' => Row w' (w.heap.size) 31 h.cs ∧ Row w' (w1.heap.size) 33 (⟨k, b, c, s⟩ : DvA).cs ∧ Row w' (w2.heap.size) 35 (⟨cut, n, nz⟩ : DvF).cs) (.take 0 <| .take 1 <| .take 2 <| .take 3 <| .take 4 <| .take 5 <| .take 6 <| .two 7 (.two 8 (.take 9 <| .take 10 <| .take 11 <| .one 12 <| .one 13 <| .take 14 <| .done) 12 (.one 8 <| .take 9 <| .take 10 <| .take 11 <| .one 13 <| .take 14 <| .done)) 12 (.one 7 <| .one 8 <| .take 9 <| .take 10 <| .take 11 <| .one 13 <| .take 14 <| .done)) (by kernel_rfl) (by kernel_rfl) (by kernel_rfl) (fun _ _ _ _ _ h => h) ⟨rhd, rad, rfd⟩ ?_
    repeat (refine plan_take _ rfl ?_; (first | ((with_reducible refine wpQuiet_at ⟨some 13, _, _, _, _, _⟩ ?_); refine wpQuiet_valueG rfl _ (by intro _ hS; exact exec_loadHL _ _ rfl (w.heap.size) rfl h hS.1) (wpQuiet_nil ?_); simp only [Act.put, List.setIfInBounds_toArray, List.set_cons_zero, List.set_cons_succ]) | ((with_reducible refine wpQuiet_at ⟨some 15, _, _, _, _, _⟩ ?_); refine wpQuiet_valueG rfl _ (by intro _ hS; exact exec_load1 _ 3 _ rfl ⟨w1.heap.size, 2, none⟩ rfl _ (hS.2.1.cell (j := 2) rfl) _ Try.underlying3 rfl) (wpQuiet_nil ?_); simp only [Act.put, List.setIfInBounds_toArray, List.set_cons_zero, List.set_cons_succ]) | ((with_reducible refine wpQuiet_at ⟨some 17, _, _, _, _, _⟩ ?_); refine wpQuiet_valueG rfl _ (by intro _ hS; exact exec_load1 _ 9 _ rfl ⟨w1.heap.size, 3, none⟩ rfl _ (hS.2.1.cell (j := 3) rfl) _ Try.underlying9 rfl) (wpQuiet_nil ?_); simp only [Act.put, List.setIfInBounds_toArray, List.set_cons_zero, List.set_cons_succ]) | ((with_reducible refine wpQuiet_at ⟨some 18, _, _, _, _, _⟩ ?_); refine wpQuiet_valueG rfl _ (by intro _ hS; exact exec_loadT _ _ rfl (w2.heap.size) rfl (⟨cut, n, nz⟩ : DvF) hS.2.2) (wpQuiet_nil ?_); simp only [Act.put, List.setIfInBounds_toArray, List.set_cons_zero, List.set_cons_succ]) | (go_big_quiet_step ((intros; rfl)); refine wpQuiet_nil ?_)))
    refine plan_two ?_ ?_
    · refine step_at _ rfl fun K hK => ?_
      go_simp
      refine (written_any9 _ _).mono ?_
      rintro e wu1 ⟨rfl, hu1⟩
      have rhu1 := rhd.on hu1
      have rau1 := rad.on hu1
      have rfu1 := rfd.on hu1
      have oku1 := okd.on hu1
      have bu1 := b0.trans (hu1.mono b0.size)
      have zu1 := hu1.size
      refine hK _ _ ⟨rhu1, rau1, rfu1⟩ ?_
      clear hK K
      refine plan_two ?_ ?_
      · refine step_at _ rfl fun K hK => ?_
        go_simp
        refine (HC _ oku1.2.1).out.mono ?_
        rintro e wu2 ⟨Bu2, mu2, du2, rfl, ownu2, szu2, hu2⟩
        unfold flv
        have rhu2 := rhu1.on hu2
        have rau2 := rau1.on hu2
        have rfu2 := rfu1.on hu2
        have oku2 := oku1.on hu2
        have bu2 := bu1.trans (hu2.mono bu1.size)
        have zu2 := hu2.size
        refine hK _ _ ⟨rhu2, rau2, rfu2⟩ ?_
        clear hK K
        repeat (refine plan_take _ rfl ?_; (first | ((with_reducible refine wpQuiet_at ⟨some 13, _, _, _, _, _⟩ ?_); refine wpQuiet_valueG rfl _ (by intro _ hS; exact exec_loadHL _ _ rfl (w.heap.size) rfl h hS.1) (wpQuiet_nil ?_); simp only [Act.put, List.setIfInBounds_toArray, List.set_cons_zero, List.set_cons_succ]) | ((with_reducible refine wpQuiet_at ⟨some 15, _, _, _, _, _⟩ ?_); refine wpQuiet_valueG rfl _ (by intro _ hS; exact exec_load1 _ 3 _ rfl ⟨w1.heap.size, 2, none⟩ rfl _ (hS.2.1.cell (j := 2) rfl) _ Try.underlying3 rfl) (wpQuiet_nil ?_); simp only [Act.put, List.setIfInBounds_toArray, List.set_cons_zero, List.set_cons_succ]) | ((with_reducible refine wpQuiet_at ⟨some 17, _, _, _, _, _⟩ ?_); refine wpQuiet_valueG rfl _ (by intro _ hS; exact exec_load1 _ 9 _ rfl ⟨w1.heap.size, 3, none⟩ rfl _ (hS.2.1.cell (j := 3) rfl) _ Try.underlying9 rfl) (wpQuiet_nil ?_); simp only [Act.put, List.setIfInBounds_toArray, List.set_cons_zero, List.set_cons_succ]) | ((with_reducible refine wpQuiet_at ⟨some 18, _, _, _, _, _⟩ ?_); refine wpQuiet_valueG rfl _ (by intro _ hS; exact exec_loadT _ _ rfl (w2.heap.size) rfl (⟨cut, n, nz⟩ : DvF) hS.2.2) (wpQuiet_nil ?_); simp only [Act.put, List.setIfInBounds_toArray, List.set_cons_zero, List.set_cons_succ]) | (go_big_quiet_step ((intros; rfl)); refine wpQuiet_nil ?_)))
        refine plan_one _ rfl fun K hK => ?_
        refine step_alloc rfl _ rfl [.slice none 0 0] (by kernel_rfl) ?_
        intro wu3 z9u3 su3 gu3
        have hu3 := grown_below gu3 (Nat.le_refl _) (by simp)
        have rhu3 := rhu2.on hu3
        have rau3 := rau2.on hu3
        have rfu3 := rfu2.on hu3
        have oku3 := oku2.on hu3
        have bu3 := bu2.trans (hu3.mono bu2.size)
        have zu3 := hu3.size
        have ownu3 := own_below ownu2 hu3
        refine hK _ _ ⟨rhu3, rau3, rfu3⟩ ?_
        clear hK K
        simp only [Act.put, List.setIfInBounds_toArray, List.set_cons_zero, List.set_cons_succ]
        refine plan_one _ rfl fun K hK => ?_
        refine step_store_all rfl _ _ _ rfl (wu2.heap.size) rfl _ _ z9u3 [.slice Bu2 mu2 du2] rfl (slice_one _ _ _) rfl (by kernel_rfl) ?_
        intro wu4 ru4 gu4
        have rhu4 := rhu3.kept gu4 (by simp; omega)
        have rau4 := rau3.kept gu4 (by simp; omega)
        have rfu4 := rfu3.kept gu4 (by simp; omega)
        have ownu4 := own_below ownu2 (below_kept (grown_below gu3 (Nat.le_refl _) (by simp)) gu4 (Nat.le_of_lt su3) (by rintro q hq; cases hq; exact Nat.le_refl _))
        have bu4 := below_kept bu3 gu4 bu3.size (by rintro q hq; cases hq; omega)
        refine hK _ _ ⟨rhu4, rau4, rfu4⟩ ?_
        clear hK K
        simp only [Act.put]
        repeat (refine plan_take _ rfl ?_; (first | ((with_reducible refine wpQuiet_at ⟨some 13, _, _, _, _, _⟩ ?_); refine wpQuiet_valueG rfl _ (by intro _ hS; exact exec_loadHL _ _ rfl (w.heap.size) rfl h hS.1) (wpQuiet_nil ?_); simp only [Act.put, List.setIfInBounds_toArray, List.set_cons_zero, List.set_cons_succ]) | ((with_reducible refine wpQuiet_at ⟨some 15, _, _, _, _, _⟩ ?_); refine wpQuiet_valueG rfl _ (by intro _ hS; exact exec_load1 _ 3 _ rfl ⟨w1.heap.size, 2, none⟩ rfl _ (hS.2.1.cell (j := 2) rfl) _ Try.underlying3 rfl) (wpQuiet_nil ?_); simp only [Act.put, List.setIfInBounds_toArray, List.set_cons_zero, List.set_cons_succ]) | ((with_reducible refine wpQuiet_at ⟨some 17, _, _, _, _, _⟩ ?_); refine wpQuiet_valueG rfl _ (by intro _ hS; exact exec_load1 _ 9 _ rfl ⟨w1.heap.size, 3, none⟩ rfl _ (hS.2.1.cell (j := 3) rfl) _ Try.underlying9 rfl) (wpQuiet_nil ?_); simp only [Act.put, List.setIfInBounds_toArray, List.set_cons_zero, List.set_cons_succ]) | ((with_reducible refine wpQuiet_at ⟨some 18, _, _, _, _, _⟩ ?_); refine wpQuiet_valueG rfl _ (by intro _ hS; exact exec_loadT _ _ rfl (w2.heap.size) rfl (⟨cut, n, nz⟩ : DvF) hS.2.2) (wpQuiet_nil ?_); simp only [Act.put, List.setIfInBounds_toArray, List.set_cons_zero, List.set_cons_succ]) | (go_big_quiet_step ((intros; rfl)); refine wpQuiet_nil ?_)))
        refine plan_done ?_
        go_wp2_with fail
        go_meet
        exact ⟨_, Bu2, mu2, du2, rfl, rfl, ru4, own_flok ownu4 szu2, (fun h0 ad e => by have := own_block ownu4 h0 ad e; omega), by omega, bu4⟩
      · refine step_at _ rfl fun K hK => ?_
        refine step_alloc rfl _ rfl [.slice none 0 0] (by kernel_rfl) ?_
        intro wu5 z9u5 su5 gu5
        have hu5 := grown_below gu5 (Nat.le_refl _) (by simp)
        have rhu5 := rhu1.on hu5
        have rau5 := rau1.on hu5
        have rfu5 := rfu1.on hu5
        have oku5 := oku1.on hu5
        have bu5 := bu1.trans (hu5.mono bu1.size)
        have zu5 := hu5.size
        refine hK _ _ ⟨rhu5, rau5, rfu5⟩ ?_
        clear hK K
        simp only [Act.put, List.setIfInBounds_toArray, List.set_cons_zero, List.set_cons_succ]
        refine plan_one _ rfl fun K hK => ?_
        go_simp
        refine (HC _ oku5.2.1).out.mono ?_
        rintro e wu6 ⟨Bu6, mu6, du6, rfl, ownu6, szu6, hu6⟩
        unfold flv
        have rhu6 := rhu5.on hu6
        have rau6 := rau5.on hu6
        have rfu6 := rfu5.on hu6
        have oku6 := oku5.on hu6
        have z9u6 := z9u5.on hu6
        have bu6 := bu5.trans (hu6.mono bu5.size)
        have zu6 := hu6.size
        refine hK _ _ ⟨rhu6, rau6, rfu6⟩ ?_
        clear hK K
        repeat (refine plan_take _ rfl ?_; (first | ((with_reducible refine wpQuiet_at ⟨some 13, _, _, _, _, _⟩ ?_); refine wpQuiet_valueG rfl _ (by intro _ hS; exact exec_loadHL _ _ rfl (w.heap.size) rfl h hS.1) (wpQuiet_nil ?_); simp only [Act.put, List.setIfInBounds_toArray, List.set_cons_zero, List.set_cons_succ]) | ((with_reducible refine wpQuiet_at ⟨some 15, _, _, _, _, _⟩ ?_); refine wpQuiet_valueG rfl _ (by intro _ hS; exact exec_load1 _ 3 _ rfl ⟨w1.heap.size, 2, none⟩ rfl _ (hS.2.1.cell (j := 2) rfl) _ Try.underlying3 rfl) (wpQuiet_nil ?_); simp only [Act.put, List.setIfInBounds_toArray, List.set_cons_zero, List.set_cons_succ]) | ((with_reducible refine wpQuiet_at ⟨some 17, _, _, _, _, _⟩ ?_); refine wpQuiet_valueG rfl _ (by intro _ hS; exact exec_load1 _ 9 _ rfl ⟨w1.heap.size, 3, none⟩ rfl _ (hS.2.1.cell (j := 3) rfl) _ Try.underlying9 rfl) (wpQuiet_nil ?_); simp only [Act.put, List.setIfInBounds_toArray, List.set_cons_zero, List.set_cons_succ]) | ((with_reducible refine wpQuiet_at ⟨some 18, _, _, _, _, _⟩ ?_); refine wpQuiet_valueG rfl _ (by intro _ hS; exact exec_loadT _ _ rfl (w2.heap.size) rfl (⟨cut, n, nz⟩ : DvF) hS.2.2) (wpQuiet_nil ?_); simp only [Act.put, List.setIfInBounds_toArray, List.set_cons_zero, List.set_cons_succ]) | (go_big_quiet_step ((intros; rfl)); refine wpQuiet_nil ?_)))
        refine plan_one _ rfl fun K hK => ?_
        refine step_store_all rfl _ _ _ rfl (wu1.heap.size) rfl _ _ z9u6 [.slice Bu6 mu6 du6] rfl (slice_one _ _ _) rfl (by kernel_rfl) ?_
        intro wu7 ru7 gu7
        have rhu7 := rhu6.kept gu7 (by simp; omega)
        have rau7 := rau6.kept gu7 (by simp; omega)
        have rfu7 := rfu6.kept gu7 (by simp; omega)
        have ownu7 := own_kept_lt ownu6 gu7 (by omega)
        have bu7 := below_kept bu6 gu7 bu6.size (by rintro q hq; cases hq; omega)
        refine hK _ _ ⟨rhu7, rau7, rfu7⟩ ?_
        clear hK K
        simp only [Act.put]
        repeat (refine plan_take _ rfl ?_; (first | ((with_reducible refine wpQuiet_at ⟨some 13, _, _, _, _, _⟩ ?_); refine wpQuiet_valueG rfl _ (by intro _ hS; exact exec_loadHL _ _ rfl (w.heap.size) rfl h hS.1) (wpQuiet_nil ?_); simp only [Act.put, List.setIfInBounds_toArray, List.set_cons_zero, List.set_cons_succ]) | ((with_reducible refine wpQuiet_at ⟨some 15, _, _, _, _, _⟩ ?_); refine wpQuiet_valueG rfl _ (by intro _ hS; exact exec_load1 _ 3 _ rfl ⟨w1.heap.size, 2, none⟩ rfl _ (hS.2.1.cell (j := 2) rfl) _ Try.underlying3 rfl) (wpQuiet_nil ?_); simp only [Act.put, List.setIfInBounds_toArray, List.set_cons_zero, List.set_cons_succ]) | ((with_reducible refine wpQuiet_at ⟨some 17, _, _, _, _, _⟩ ?_); refine wpQuiet_valueG rfl _ (by intro _ hS; exact exec_load1 _ 9 _ rfl ⟨w1.heap.size, 3, none⟩ rfl _ (hS.2.1.cell (j := 3) rfl) _ Try.underlying9 rfl) (wpQuiet_nil ?_); simp only [Act.put, List.setIfInBounds_toArray, List.set_cons_zero, List.set_cons_succ]) | ((with_reducible refine wpQuiet_at ⟨some 18, _, _, _, _, _⟩ ?_); refine wpQuiet_valueG rfl _ (by intro _ hS; exact exec_loadT _ _ rfl (w2.heap.size) rfl (⟨cut, n, nz⟩ : DvF) hS.2.2) (wpQuiet_nil ?_); simp only [Act.put, List.setIfInBounds_toArray, List.set_cons_zero, List.set_cons_succ]) | (go_big_quiet_step ((intros; rfl)); refine wpQuiet_nil ?_)))
        refine plan_done ?_
        go_wp2_with fail
        go_meet
        exact ⟨_, Bu6, mu6, du6, rfl, rfl, ru7, own_flok ownu7 szu6, (fun h0 ad e => by have := own_block ownu7 h0 ad e; omega), by omega, bu7⟩
    · refine step_at _ rfl fun K hK => ?_
      refine step_alloc rfl _ rfl [.slice none 0 0] (by kernel_rfl) ?_
      intro wu8 z9u8 su8 gu8
      have hu8 := grown_below gu8 (Nat.le_refl _) (by simp)
      have rhu8 := rhd.on hu8
      have rau8 := rad.on hu8
      have rfu8 := rfd.on hu8
      have oku8 := okd.on hu8
      have bu8 := b0.trans (hu8.mono b0.size)
      have zu8 := hu8.size
      refine hK _ _ ⟨rhu8, rau8, rfu8⟩ ?_
      clear hK K
      simp only [Act.put, List.setIfInBounds_toArray, List.set_cons_zero, List.set_cons_succ]
      refine plan_one _ rfl fun K hK => ?_
      go_simp
      refine (written_any9 _ _).mono ?_
      rintro e wu9 ⟨rfl, hu9⟩
      have rhu9 := rhu8.on hu9
      have rau9 := rau8.on hu9
      have rfu9 := rfu8.on hu9
      have oku9 := oku8.on hu9
      have z9u9 := z9u8.on hu9
      have bu9 := bu8.trans (hu9.mono bu8.size)
      have zu9 := hu9.size
      refine hK _ _ ⟨rhu9, rau9, rfu9⟩ ?_
      clear hK K
      refine plan_one _ rfl fun K hK => ?_
      go_simp
      refine (HC _ oku9.2.1).out.mono ?_
      rintro e wu10 ⟨Bu10, mu10, du10, rfl, ownu10, szu10, hu10⟩
      unfold flv
      have rhu10 := rhu9.on hu10
      have rau10 := rau9.on hu10
      have rfu10 := rfu9.on hu10
      have oku10 := oku9.on hu10
      have z9u10 := z9u9.on hu10
      have bu10 := bu9.trans (hu10.mono bu9.size)
      have zu10 := hu10.size
      refine hK _ _ ⟨rhu10, rau10, rfu10⟩ ?_
      clear hK K
      repeat (refine plan_take _ rfl ?_; (first | ((with_reducible refine wpQuiet_at ⟨some 13, _, _, _, _, _⟩ ?_); refine wpQuiet_valueG rfl _ (by intro _ hS; exact exec_loadHL _ _ rfl (w.heap.size) rfl h hS.1) (wpQuiet_nil ?_); simp only [Act.put, List.setIfInBounds_toArray, List.set_cons_zero, List.set_cons_succ]) | ((with_reducible refine wpQuiet_at ⟨some 15, _, _, _, _, _⟩ ?_); refine wpQuiet_valueG rfl _ (by intro _ hS; exact exec_load1 _ 3 _ rfl ⟨w1.heap.size, 2, none⟩ rfl _ (hS.2.1.cell (j := 2) rfl) _ Try.underlying3 rfl) (wpQuiet_nil ?_); simp only [Act.put, List.setIfInBounds_toArray, List.set_cons_zero, List.set_cons_succ]) | ((with_reducible refine wpQuiet_at ⟨some 17, _, _, _, _, _⟩ ?_); refine wpQuiet_valueG rfl _ (by intro _ hS; exact exec_load1 _ 9 _ rfl ⟨w1.heap.size, 3, none⟩ rfl _ (hS.2.1.cell (j := 3) rfl) _ Try.underlying9 rfl) (wpQuiet_nil ?_); simp only [Act.put, List.setIfInBounds_toArray, List.set_cons_zero, List.set_cons_succ]) | ((with_reducible refine wpQuiet_at ⟨some 18, _, _, _, _, _⟩ ?_); refine wpQuiet_valueG rfl _ (by intro _ hS; exact exec_loadT _ _ rfl (w2.heap.size) rfl (⟨cut, n, nz⟩ : DvF) hS.2.2) (wpQuiet_nil ?_); simp only [Act.put, List.setIfInBounds_toArray, List.set_cons_zero, List.set_cons_succ]) | (go_big_quiet_step ((intros; rfl)); refine wpQuiet_nil ?_)))
      refine plan_one _ rfl fun K hK => ?_
      refine step_store_all rfl _ _ _ rfl (w5.drew.heap.size) rfl _ _ z9u10 [.slice Bu10 mu10 du10] rfl (slice_one _ _ _) rfl (by kernel_rfl) ?_
      intro wu11 ru11 gu11
      have rhu11 := rhu10.kept gu11 (by simp; omega)
      have rau11 := rau10.kept gu11 (by simp; omega)
      have rfu11 := rfu10.kept gu11 (by simp; omega)
      have ownu11 := own_kept_lt ownu10 gu11 (by omega)
      have bu11 := below_kept bu10 gu11 bu10.size (by rintro q hq; cases hq; omega)
      refine hK _ _ ⟨rhu11, rau11, rfu11⟩ ?_
      clear hK K
      simp only [Act.put]
      repeat (refine plan_take _ rfl ?_; (first | ((with_reducible refine wpQuiet_at ⟨some 13, _, _, _, _, _⟩ ?_); refine wpQuiet_valueG rfl _ (by intro _ hS; exact exec_loadHL _ _ rfl (w.heap.size) rfl h hS.1) (wpQuiet_nil ?_); simp only [Act.put, List.setIfInBounds_toArray, List.set_cons_zero, List.set_cons_succ]) | ((with_reducible refine wpQuiet_at ⟨some 15, _, _, _, _, _⟩ ?_); refine wpQuiet_valueG rfl _ (by intro _ hS; exact exec_load1 _ 3 _ rfl ⟨w1.heap.size, 2, none⟩ rfl _ (hS.2.1.cell (j := 2) rfl) _ Try.underlying3 rfl) (wpQuiet_nil ?_); simp only [Act.put, List.setIfInBounds_toArray, List.set_cons_zero, List.set_cons_succ]) | ((with_reducible refine wpQuiet_at ⟨some 17, _, _, _, _, _⟩ ?_); refine wpQuiet_valueG rfl _ (by intro _ hS; exact exec_load1 _ 9 _ rfl ⟨w1.heap.size, 3, none⟩ rfl _ (hS.2.1.cell (j := 3) rfl) _ Try.underlying9 rfl) (wpQuiet_nil ?_); simp only [Act.put, List.setIfInBounds_toArray, List.set_cons_zero, List.set_cons_succ]) | ((with_reducible refine wpQuiet_at ⟨some 18, _, _, _, _, _⟩ ?_); refine wpQuiet_valueG rfl _ (by intro _ hS; exact exec_loadT _ _ rfl (w2.heap.size) rfl (⟨cut, n, nz⟩ : DvF) hS.2.2) (wpQuiet_nil ?_); simp only [Act.put, List.setIfInBounds_toArray, List.set_cons_zero, List.set_cons_succ]) | (go_big_quiet_step ((intros; rfl)); refine wpQuiet_nil ?_)))
      refine plan_done ?_
      go_wp2_with fail
      go_meet
      exact ⟨_, Bu10, mu10, du10, rfl, rfl, ru11, own_flok ownu11 szu10, (fun h0 ad e => by have := own_block ownu11 h0 ad e; omega), by omega, bu11⟩
  case rest =>
    revert wc
    intro wc hcut
    obtain ⟨g9, B9, m9, d9, rfl, rfl, r9, lok, lin, hg9, hb9⟩ := hcut
    have B9c := B5.trans (hb9.mono B5.size)
    have okh_9c := okh_5.on hb9
    have rh_9c := rh_5.on hb9
    have ra_9c := ra_5.on hb9
    have rf_9c := rf_5.on hb9
    have z6_9c := z6_5.on hb9
    have z7_9c := z7_5.on hb9
    clear okh_5 rh_5 ra_5 rf_5 z6_5 z7_5
    have cra0 := ra_9c.cell (j := 0) rfl
    have cra1 := ra_9c.cell (j := 1) rfl
    have cra2 := ra_9c.cell (j := 2) rfl
    have cra3 := ra_9c.cell (j := 3) rfl
    have crf0 := rf_9c.cell (j := 0) rfl
    have crf1 := rf_9c.cell (j := 1) rfl
    have crf2 := rf_9c.cell (j := 2) rfl
    have lh := rh_9c.lt
    have l6 := z6_9c.lt
    have l7 := z7_9c.lt
    go_wp2_with (first
      | ((with_reducible refine wpList_at ⟨some 23, _, _, _, _, _⟩ ?_); refine wpList_valueG rfl _ (by exact exec_load _ 27 _ rfl ⟨g9, 0, none⟩ rfl [.slice B9 m9 d9] r9.cells _ Try.underlying27 rfl (by kernel_rfl)) ?_)
      | ((with_reducible refine wpList_at ⟨none, .store _ (.tmp 24) _, _, _, _, _⟩ ?_); refine wpList_store_part rfl _ _ _ rfl (w.heap.size) 1 rfl _ _ rh_9c [.slice B9 m9 d9] rfl (slice_one _ _ _) (by show 1 + 1 ≤ _ + 2; omega) (by kernel_rfl) ?_; intro ws rs gs; have z6s := z6_9c.kept gs (by simp; omega); have z7s := z7_9c.kept gs (by simp; omega))
      | ((with_reducible refine wpList_at ⟨some 25, _, _, _, _, _⟩ ?_); refine wpList_valueG rfl _ (by exact exec_loadH _ _ rfl (w.heap.size) rfl (⟨h.A, h.n, h.c, h.ps, B9, m9, d9, V, h.rt⟩ : Hw) H16.out rs) ?_)
      | ((with_reducible refine wpList_at ⟨none, .store _ (.tmp 6) _, _, _, _, _⟩ ?_); refine wpList_store_all rfl _ _ _ rfl (w3.heap.size) rfl _ _ z6s ((⟨h.A, h.n, h.c, h.ps, B9, m9, d9, V, h.rt⟩ : Hw)).cs rfl (Hw.cs_one _) (hw_zl H16.out) (hw_size H16.out) ?_; intro wx rx gx; have z7x := z7s.kept gx (by simp; omega))
      | ((with_reducible refine wpList_at ⟨none, .store _ (.tmp 7) _, _, _, _, _⟩ ?_); refine wpList_store_all rfl _ _ _ rfl (w4.heap.size) rfl _ _ z7x noR.cs rfl (DvR.cs_one _) rfl (by kernel_rfl) ?_; intro wy ry gy))
    have ls := gs.size
    have lx := gx.size
    have ok2 : HwOK wc (⟨h.A, h.n, h.c, h.ps, B9, m9, d9, V, h.rt⟩ : Hw) := ⟨okh_9c.1, lok, H16.out⟩
    have in2 : HwIn (fun q => q < w.heap.size ∨ w5.heap.size ≤ q) (⟨h.A, h.n, h.c, h.ps, B9, m9, d9, V, h.rt⟩ : Hw) := ⟨HI0.out.1.weak (fun _ h => .inl h), lin.weak (fun _ h => .inr h)⟩
    have nx : ∀ q, w.heap.size ≤ q → q < w5.heap.size → ¬ (q < w.heap.size ∨ w5.heap.size ≤ q) := fun q h1 h2 => by omega
    have oks := ok2.apart in2 gs (nx _ (by omega) (by omega))
    have okx := oks.apart in2 gx (nx _ (by omega) (by omega))
    have oky := okx.apart in2 gy (nx _ (by omega) (by omega))
    have rxy := rx.kept gy (by simp; omega)
    refine bodyPost_ret (results_cells2 Try.results54 _ _ _ _ _ _ rfl rfl (load_hw rxy H16.out) (load_rs ry)) rfl ⟨(⟨h.A, h.n, h.c, h.ps, B9, m9, d9, V, h.rt⟩ : Hw), rfl, oky, ⟨HXI.out.1.weak (fun _ h => .inl h), lin.weak (fun q hq => .inr (by omega))⟩, rfl, ?_⟩
    exact below_kept (below_kept (below_kept B9c gs B9c.size (by rintro q hq; cases hq; omega)) gx (Nat.le_trans B9c.size gs.size) (by rintro q hq; cases hq; omega)) gy (Nat.le_trans (Nat.le_trans B9c.size gs.size) gx.size) (by rintro q hq; cases hq; omega)

end Go.Proofs.Ytkepmhkakkkliaa
