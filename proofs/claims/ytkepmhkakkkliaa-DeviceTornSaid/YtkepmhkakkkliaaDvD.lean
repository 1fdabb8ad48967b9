/-
  What device.Do returns: a contract by a walk. Condition: bounded lengths.
-/
import Derived.Test.YtkepmhkakkkliaaDvQ
namespace Go.Proofs.Ytkepmhkakkkliaa
open Go.RowKit

set_option maxRecDepth 100000 in
set_option maxHeartbeats 4000000 in
theorem do_any9 (h : Hw) (a : DvA) (f : DvF) (w : World) (hok : HwOK w h) (hs : dvSm h.s) :
    Calls Try.prog 10 #[h.v, a.v, f.v] w (GivesD (fun _ => False) (dvSt h.s a f) (dvRs h.s a f) (dvErr h.s a) w) := by
  have H16 := Lib.hid hok.h16
  have HSM := Lib.hid hs
  have HC := fun W h1 => Lib.hid (dclone_any h W h1 HSM.out)
  clear hs
  go_enter Try.func10, Try.ntmps10
  go_wp2_with (first
    | ((with_reducible refine wpList_at ⟨some 3, _, _, _, _, _⟩ ?_); refine wpList_box_row rfl _ _ rfl (h.cs) rfl ?_; intro w1 rh_1 s1 g1; have k1 : Below w.heap.size w w1 := grown_below g1 (Nat.le_refl _) (by simp); have B1 : Below w.heap.size w w1 := k1; have okh_1 := hok.on k1)
    | ((with_reducible refine wpList_at ⟨some 4, _, _, _, _, _⟩ ?_); refine wpList_box_row rfl _ _ rfl (a.cs) rfl ?_; intro w2 ra_2 s2 g2; have k2 : Below w1.heap.size w1 w2 := grown_below g2 (Nat.le_refl _) (by simp); have B2 := B1.trans (k2.mono B1.size); have okh_2 := okh_1.on k2; have rh_2 := rh_1.on k2; clear okh_1 rh_1)
    | ((with_reducible refine wpList_at ⟨some 5, _, _, _, _, _⟩ ?_); refine wpList_box_row rfl _ _ rfl (f.cs) rfl ?_; intro w3 rf_3 s3 g3; have k3 : Below w2.heap.size w2 w3 := grown_below g3 (Nat.le_refl _) (by simp); have B3 := B2.trans (k3.mono B2.size); have okh_3 := okh_2.on k3; have rh_3 := rh_2.on k3; have ra_3 := ra_2.on k3; clear okh_2 rh_2 ra_2)
    | (with_reducible refine wpList_alloc_row (o := ⟨some 6, _, _, _, _, _⟩) rfl _ rfl zeroH zero_hw ?_; intro w4 z6_4 s4 g4; have k4 : Below w3.heap.size w3 w4 := grown_below g4 (Nat.le_refl _) (by simp); have B4 := B3.trans (k4.mono B3.size); have okh_4 := okh_3.on k4; have rh_4 := rh_3.on k4; have ra_4 := ra_3.on k4; have rf_4 := rf_3.on k4; clear okh_3 rh_3 ra_3 rf_3)
    | (with_reducible refine wpList_alloc_row (o := ⟨some 7, _, _, _, _, _⟩) rfl _ rfl zeroR zero_rs ?_; intro w5 z7_5 s5 g5; have k5 : Below w4.heap.size w4 w5 := grown_below g5 (Nat.le_refl _) (by simp); have B5 := B4.trans (k5.mono B4.size); have okh_5 := okh_4.on k5; have rh_5 := rh_4.on k5; have ra_5 := ra_4.on k5; have rf_5 := rf_4.on k5; have z6_5 := z6_4.on k5; clear okh_4 rh_4 ra_4 rf_4 z6_4))
  have b0 : Below w.heap.size w w5.drew := B5.drew
  have z0 : w5.drew.heap.size = w5.heap.size := rfl
  have rhd := rh_5.drew
  have lrh := rh_5.lt
  have rad := ra_5.drew
  have lra := ra_5.lt
  have rfd := rf_5.drew
  have lrf := rf_5.lt
  have z6d := z6_5.drew
  have lz6 := z6_5.lt
  have z7d := z7_5.drew
  have lz7 := z7_5.lt
  have okd : HwOK w5.drew h := okh_5
  refine wp_region_plan (fun w' => Row w' (w.heap.size) 31 h.cs ∧ Row w' (w1.heap.size) 33 a.cs ∧ Row w' (w2.heap.size) 35 f.cs) (.take 0 <| .take 2 <| .take 3 <| .one 1 <| .one 4 <| .take 5 <| .take 6 <| .take 7 <| .one 8 <| .one 9 <| .take 10 <| .done) (by kernel_rfl) (by kernel_rfl) (by kernel_rfl) (fun _ _ _ _ _ h => h) ⟨rhd, rad, rfd⟩ ?_
  repeat (refine plan_take _ rfl ?_; (first | ((with_reducible refine wpQuiet_at ⟨some 9, _, _, _, _, _⟩ ?_); refine wpQuiet_valueG rfl _ (by intro _ hS; exact exec_loadH _ _ rfl (w.heap.size) rfl h H16.out hS.1) (wpQuiet_nil ?_); simp only [Act.put, List.setIfInBounds_toArray, List.set_cons_zero, List.set_cons_succ]) | ((with_reducible refine wpQuiet_at ⟨some 11, _, _, _, _, _⟩ ?_); refine wpQuiet_valueG rfl _ (by intro _ hS; exact exec_loadA _ _ rfl (w1.heap.size) rfl a hS.2.1) (wpQuiet_nil ?_); simp only [Act.put, List.setIfInBounds_toArray, List.set_cons_zero, List.set_cons_succ]) | ((with_reducible refine wpQuiet_at ⟨some 12, _, _, _, _, _⟩ ?_); refine wpQuiet_valueG rfl _ (by intro _ hS; exact exec_loadT _ _ rfl (w2.heap.size) rfl f hS.2.2) (wpQuiet_nil ?_); simp only [Act.put, List.setIfInBounds_toArray, List.set_cons_zero, List.set_cons_succ]) | (go_big_quiet_step ((intros; rfl)); refine wpQuiet_nil ?_)))
  refine plan_one _ rfl fun K hK => ?_
  go_simp
  refine (HC _ okd).out.mono ?_
  rintro e wu1 ⟨h1, rfl, hk1, hi1, hs1, hbu1⟩
  have HS1 := Lib.hid hs1
  clear hs1
  have rhu1 := rhd.on hbu1
  have rau1 := rad.on hbu1
  have rfu1 := rfd.on hbu1
  have z6u1 := z6d.on hbu1
  have z7u1 := z7d.on hbu1
  have oku1 := okd.on hbu1
  have bu1 := b0.trans (hbu1.mono b0.size)
  have zu1 := hbu1.size
  refine hK _ _ ⟨rhu1, rau1, rfu1⟩ ?_
  clear hK K
  refine plan_one _ rfl fun K hK => ?_
  go_simp
  have hst := step_any9 (fun q => w5.heap.size ≤ q) h1 a f _ (hi1.weak (fun q hq => by omega)) hk1 (HS1.out ▸ HSM.out)
  rw [HS1.out] at hst
  refine hst.mono ?_
  clear hst
  rintro e wu2 ⟨h2, rfl, hk2, hi2, hs2, hbu2⟩
  have rhu2 := rhu1.on hbu2
  have rau2 := rau1.on hbu2
  have rfu2 := rfu1.on hbu2
  have z6u2 := z6u1.on hbu2
  have z7u2 := z7u1.on hbu2
  have bu2 := bu1.trans (hbu2.mono bu1.size)
  have zu2 := hbu2.size
  refine hK _ _ ⟨rhu2, rau2, rfu2⟩ ?_
  clear hK K
  repeat (refine plan_take _ rfl ?_; (first | ((with_reducible refine wpQuiet_at ⟨some 9, _, _, _, _, _⟩ ?_); refine wpQuiet_valueG rfl _ (by intro _ hS; exact exec_loadH _ _ rfl (w.heap.size) rfl h H16.out hS.1) (wpQuiet_nil ?_); simp only [Act.put, List.setIfInBounds_toArray, List.set_cons_zero, List.set_cons_succ]) | ((with_reducible refine wpQuiet_at ⟨some 11, _, _, _, _, _⟩ ?_); refine wpQuiet_valueG rfl _ (by intro _ hS; exact exec_loadA _ _ rfl (w1.heap.size) rfl a hS.2.1) (wpQuiet_nil ?_); simp only [Act.put, List.setIfInBounds_toArray, List.set_cons_zero, List.set_cons_succ]) | ((with_reducible refine wpQuiet_at ⟨some 12, _, _, _, _, _⟩ ?_); refine wpQuiet_valueG rfl _ (by intro _ hS; exact exec_loadT _ _ rfl (w2.heap.size) rfl f hS.2.2) (wpQuiet_nil ?_); simp only [Act.put, List.setIfInBounds_toArray, List.set_cons_zero, List.set_cons_succ]) | (go_big_quiet_step ((intros; rfl)); refine wpQuiet_nil ?_)))
  refine plan_one _ rfl fun K hK => ?_
  refine step_store_all rfl _ _ _ rfl (w3.heap.size) rfl _ _ z6u2 (h2.cs) rfl (Hw.cs_one _) (hw_zl hk2.h16) (hw_size hk2.h16) ?_
  intro wu3 ru3 gu3
  have rhu3 := rhu2.kept gu3 (by simp; omega)
  have rau3 := rau2.kept gu3 (by simp; omega)
  have rfu3 := rfu2.kept gu3 (by simp; omega)
  have z7u3 := z7u2.kept gu3 (by simp; omega)
  have hku3 := hk2.apart hi2 gu3 (by rintro (h1 | h1) <;> omega)
  have bu3 := below_kept bu2 gu3 bu2.size (by rintro q hq; cases hq; omega)
  refine hK _ _ ⟨rhu3, rau3, rfu3⟩ ?_
  clear hK K
  simp only [Act.put]
  refine plan_one _ rfl fun K hK => ?_
  refine step_store_all rfl _ _ _ rfl (w4.heap.size) rfl _ _ z7u3 ((dvRs h.s a f).cs) rfl (DvR.cs_one _) rfl (by kernel_rfl) ?_
  intro wu4 ru4 gu4
  have rhu4 := rhu3.kept gu4 (by simp; omega)
  have rau4 := rau3.kept gu4 (by simp; omega)
  have rfu4 := rfu3.kept gu4 (by simp; omega)
  have z6su4 := ru3.kept gu4 (by simp; omega)
  have hku4 := hku3.apart hi2 gu4 (by rintro (h1 | h1) <;> omega)
  have bu4 := below_kept bu3 gu4 bu3.size (by rintro q hq; cases hq; omega)
  refine hK _ _ ⟨rhu4, rau4, rfu4⟩ ?_
  clear hK K
  simp only [Act.put]
  repeat (refine plan_take _ rfl ?_; (first | ((with_reducible refine wpQuiet_at ⟨some 9, _, _, _, _, _⟩ ?_); refine wpQuiet_valueG rfl _ (by intro _ hS; exact exec_loadH _ _ rfl (w.heap.size) rfl h H16.out hS.1) (wpQuiet_nil ?_); simp only [Act.put, List.setIfInBounds_toArray, List.set_cons_zero, List.set_cons_succ]) | ((with_reducible refine wpQuiet_at ⟨some 11, _, _, _, _, _⟩ ?_); refine wpQuiet_valueG rfl _ (by intro _ hS; exact exec_loadA _ _ rfl (w1.heap.size) rfl a hS.2.1) (wpQuiet_nil ?_); simp only [Act.put, List.setIfInBounds_toArray, List.set_cons_zero, List.set_cons_succ]) | ((with_reducible refine wpQuiet_at ⟨some 12, _, _, _, _, _⟩ ?_); refine wpQuiet_valueG rfl _ (by intro _ hS; exact exec_loadT _ _ rfl (w2.heap.size) rfl f hS.2.2) (wpQuiet_nil ?_); simp only [Act.put, List.setIfInBounds_toArray, List.set_cons_zero, List.set_cons_succ]) | (go_big_quiet_step ((intros; rfl)); refine wpQuiet_nil ?_)))
  refine plan_done ?_
  go_wp2_with fail
  refine bodyPost_ret (results_cells2 Try.results10 _ _ _ _ _ _ rfl rfl (load_hw z6su4 hk2.h16) (load_rs ru4)) rfl ⟨h2, rfl, hku4, hi2.weak (fun q hq => .inr (by omega)), hs2, bu4⟩

end Go.Proofs.Ytkepmhkakkkliaa
