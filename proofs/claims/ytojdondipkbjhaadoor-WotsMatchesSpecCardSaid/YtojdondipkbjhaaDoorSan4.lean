/-
  What the law's sanity returns: a contract by a walk. Condition: the table of constants as laid.
-/
import Derived.Test.YtojdondipkbjhaaDoorWotsP
namespace Go.Proofs.YtojdondipkbjhaaDoor
open Go.RowKit

def onesK (k : Nat) : List UInt8 := List.replicate k 255 ++ List.replicate (16 - k) 0
theorem onesK_set : ∀ k : Fin 16, (onesK k.val).set k.val 255 = onesK (k.val + 1) := by decide +kernel
theorem onesK_bvs (k : Nat) (hk : k < 16) : (bvs (onesK k)).set k (.int .u8 255) = bvs (onesK (k + 1)) := by
  rw [← onesK_set ⟨k, hk⟩]
  unfold bvs
  rw [List.map_set]
  rfl
theorem onesK_len (k : Nat) (hk : k ≤ 16) : (onesK k).length = 16 := by unfold onesK; rw [List.length_append, List.length_replicate, List.length_replicate]; omega
def zero16 : List UInt8 := List.replicate 16 0
theorem zero16_vals : bvs zero16 = zeros16 := by kernel_rfl

set_option maxRecDepth 100000 in
set_option maxHeartbeats 2000000 in
theorem san4_any (w : World) (hK : Consts w) : Calls Tryd.prog 9 #[] w (TellsB true w) := by
  have HZL : Hid (zero16.length = 16) := rfl
  have HZD := fun W => Lib.hid (digits_any zero16 HZL.out W)
  have HOD := fun W => Lib.hid (digits_any (onesK 16) (onesK_len 16 (by omega)) W)
  have HSG := fun W hW => Lib.hid (sign_any zero16 (onesK 16) HZL.out (onesK_len 16 (by omega)) 1 (by omega) (by omega) W hW)
  have HRC := fun W => Lib.hid (recover_bad none 0 0 zero16 W (by omega))
  have HP1 := fun W hW => Lib.hid (public_any zero16 HZL.out 1 (by omega) (by omega) W hW)
  have HP2 := fun W hW => Lib.hid (public_any zero16 HZL.out 2 (by omega) (by omega) W hW)
  have HPN : Hid (wPub zero16 1 ≠ wPub zero16 2) := wPub_differ
  have HL1 : Hid ((wPub zero16 1).length = 16) := by show _ = _; unfold wPub digestB; rw [List.length_take, sha_len]; rfl
  have HL2 : Hid ((wPub zero16 2).length = 16) := by show _ = _; unfold wPub digestB; rw [List.length_take, sha_len]; rfl
  have HOL : ∀ k, k ≤ 16 → Hid ((onesK k).length = 16) := fun k hk => onesK_len k hk
  have HOS : ∀ k, k < 16 → Hid ((bvs (onesK k)).set k (.int .u8 255) = bvs (onesK (k + 1))) := fun k hk => onesK_bvs k hk
  have HO0 : Hid (bvs (onesK 0) = zeros16) := by show _ = _; kernel_rfl
  have HDZ := Lib.hid (wDigs_len zero16)
  have HDO := Lib.hid (wDigs_len (onesK 16))
  have HSL := Lib.hid (wSign_len zero16 1 (onesK 16))
  have Z0 : Hid ((nvs (wDigs zero16))[0]? = some (.int .i64 0)) := nvs_get (show (wDigs zero16)[0]? = some 0 by decide +kernel)
  have Z64 : Hid ((nvs (wDigs zero16))[64]? = some (.int .i64 3)) := nvs_get (show (wDigs zero16)[64]? = some 3 by decide +kernel)
  have Z65 : Hid ((nvs (wDigs zero16))[65]? = some (.int .i64 0)) := nvs_get (show (wDigs zero16)[65]? = some 0 by decide +kernel)
  have O0 : Hid ((nvs (wDigs (onesK 16)))[0]? = some (.int .i64 3)) := nvs_get (show (wDigs (onesK 16))[0]? = some 3 by decide +kernel)
  have O63 : Hid ((nvs (wDigs (onesK 16)))[63]? = some (.int .i64 3)) := nvs_get (show (wDigs (onesK 16))[63]? = some 3 by decide +kernel)
  have O64 : Hid ((nvs (wDigs (onesK 16)))[64]? = some (.int .i64 0)) := nvs_get (show (wDigs (onesK 16))[64]? = some 0 by decide +kernel)
  have O67 : Hid ((nvs (wDigs (onesK 16)))[67]? = some (.int .i64 0)) := nvs_get (show (wDigs (onesK 16))[67]? = some 0 by decide +kernel)
  have HZV := Lib.hid zero16_vals
  generalize wPub zero16 1 = P1 at *
  generalize wPub zero16 2 = P2 at *
  generalize wDigs zero16 = DZ at *
  generalize wDigs (onesK 16) = DO at *
  generalize wSign zero16 1 (onesK 16) = SG at *
  generalize zero16 = Z at *
  generalize onesK = O at *
  go_enter Tryd.func9, Tryd.ntmps9
  go_wp2_with (first
    | (with_reducible refine wpList_alloc_row (o := ⟨some 1, _, _, _, _, _⟩) rfl _ rfl zeros16 zero_b16 ?_; intro w1 hrow1 hs1 hg1)
    | (with_reducible refine wpList_alloc_row (o := ⟨some 2, _, _, _, _, _⟩) rfl _ rfl zeros16 zero_b16 ?_; intro w2 hrow2 hs2 hg2))
  have hrow1' := hrow1.kept hg2 (by simp)
  have hb2 : Below w.heap.size w w2 := below_kept (grown_below hg1 (Nat.le_refl _) (by simp)) hg2 (by omega) (by simp)
  have hlt2 := hrow2.lt
  rw [← HZV.out] at hrow1'
  rw [← HO0.out] at hrow2
  clear hrow1 hg1 hg2
  go_loopg [9] 16 (fun g s wr => ∃ k : Nat, s = .int .i64 (k : Int) ∧ k ≤ 16 ∧ 16 ≤ g + k ∧ Row wr w1.heap.size 23 (bvs (O k)) ∧ Row wr w.heap.size 23 (bvs Z) ∧ Below w.heap.size w wr)
  case atStart => exact ⟨0, rfl, by omega, by omega, hrow2, hrow1', hb2⟩
  case round =>
    obtain ⟨k, rfl, hk, hg, hro, hrz, hbr⟩ := hrel
    have hz := hbr.size
    have hlto := hro.lt
    by_cases hlt : k < 16
    · have HS := HOS k hlt
      have HOLk := HOL k hk
      go_wp2_with (refine wpList_at ⟨none, .store 5 _ _, _, _, _, _⟩ ?_; refine wpList_store_elem rfl _ _ _ rfl w1.heap.size k rfl _ _ hro (.int .u8 255) rfl rfl (by rw [bvs_length, HOLk.out]; exact hlt) (by kernel_rfl) ?_; intro w3 hrow3 hg3)
      rw [HS.out] at hrow3
      go_roundg (gk - 1)
      case measure => omega
      case rel => exact ⟨k + 1, by go_num, by omega, by omega, hrow3, hrz.kept hg3 (by simp; omega), below_kept hbr hg3 hz (by rintro k hk; cases hk; omega)⟩
    · obtain rfl : k = 16 := by omega
      go_wp2_with fail
      have hCo := hK
      refine wp_region_plan (fun w' => Row w' w.heap.size 23 (bvs Z) ∧ Row w' w1.heap.size 23 (bvs (O 16))) (.take 0 <| .take 2 <| .one 1 <| .one 3 <| .take 4 <| .take 5 <| .done) (by kernel_rfl) (by kernel_rfl) (by kernel_rfl) (fun _ _ _ _ _ h => h) ⟨hrz.drew, hro.drew⟩ ?_
      repeat (refine plan_take _ rfl ?_; (first | (refine wpQuiet_valueG (o := ⟨some 15, _, _, _, _, _⟩) rfl _ (by intro _ h; exact exec_load16 _ _ rfl _ rfl Z HZL.out h.1.cells) (wpQuiet_nil ?_); simp only [Act.put, List.setIfInBounds_toArray, List.set_cons_zero, List.set_cons_succ]) | (refine wpQuiet_valueG (o := ⟨some 17, _, _, _, _, _⟩) rfl _ (by intro _ h; exact exec_load16 _ _ rfl _ rfl (O 16) (HOL 16 (by omega)).out h.2.cells) (wpQuiet_nil ?_); simp only [Act.put, List.setIfInBounds_toArray, List.set_cons_zero, List.set_cons_succ]) | (go_big_quiet_step ((intros; rfl)); refine wpQuiet_nil ?_)))
      refine plan_one _ rfl fun K hK => ?_
      go_simp
      refine (HZD _).out.mono ?_
      rintro e wa ⟨va, rfl, ⟨_, ha⟩, hba⟩
      have za := hrz.drew.on hba
      have oa := hro.drew.on hba
      have Ba := hbr.drew.trans (hba.mono hbr.drew.size)
      obtain ⟨Aa, ca, rfl, hca, _, hra⟩ := own_form ha
      rw [HDZ.out] at hca hra ⊢
      refine hK _ _ ⟨za, oa⟩ ?_
      clear hK K
      refine plan_one _ rfl fun K hK => ?_
      go_simp
      refine (HOD _).out.mono ?_
      rintro e wb ⟨vb, rfl, ⟨_, hb⟩, hbb⟩
      have zb := za.on hbb
      have ob := oa.on hbb
      have Bb := Ba.trans (hbb.mono Ba.size)
      obtain ⟨Ab, cb, rfl, hcb, _, hrb⟩ := own_form hb
      rw [HDO.out] at hcb hrb ⊢
      have hra2 := hra.on hbb
      refine hK _ _ ⟨zb, ob⟩ ?_
      clear hK K
      repeat (refine plan_take _ rfl ?_; (first | (refine wpQuiet_valueG (o := ⟨some 15, _, _, _, _, _⟩) rfl _ (by intro _ h; exact exec_load16 _ _ rfl _ rfl Z HZL.out h.1.cells) (wpQuiet_nil ?_); simp only [Act.put, List.setIfInBounds_toArray, List.set_cons_zero, List.set_cons_succ]) | (refine wpQuiet_valueG (o := ⟨some 17, _, _, _, _, _⟩) rfl _ (by intro _ h; exact exec_load16 _ _ rfl _ rfl (O 16) (HOL 16 (by omega)).out h.2.cells) (wpQuiet_nil ?_); simp only [Act.put, List.setIfInBounds_toArray, List.set_cons_zero, List.set_cons_succ]) | (go_big_quiet_step ((intros; rfl)); refine wpQuiet_nil ?_)))
      refine plan_done ?_
      clear hra
      go_wp2_with (first
        | (with_reducible refine wpList_load_all (o := ⟨some 27, _, _, _, _, _⟩) rfl _ _ rfl w.heap.size rfl _ _ zb _ Tryd.underlying23 rfl (b16_size _ HZL.out) ?_)
        | (with_reducible refine wpList_load_all (o := ⟨some 28, _, _, _, _, _⟩) rfl _ _ rfl w1.heap.size rfl _ _ ob _ Tryd.underlying23 rfl (b16_size _ (HOL 16 (by omega)).out) ?_))
      refine (HSG _ (hCo.on Bb)).out.mono ?_
      rintro e wc ⟨vc, rfl, hc, hbc⟩
      obtain ⟨Ac, cc, rfl, hcc, _, hrc⟩ := own_form hc
      rw [HSL.out] at hcc hrc ⊢
      clear hrc
      have zc := zb.on hbc
      have Bc := Bb.trans (hbc.mono Bb.size)
      have ra3 := hra2.on hbc
      have rb3 := hrb.on hbc
      go_wp2_with (with_reducible refine wpList_load_all (o := ⟨some 31, _, _, _, _, _⟩) rfl _ _ rfl w.heap.size rfl _ _ zc _ Tryd.underlying23 rfl (b16_size _ HZL.out) ?_)
      refine (HRC _).out.mono ?_
      rintro e wd ⟨rfl, hbd⟩
      have zd := zc.on hbd
      have Bd := Bc.trans (hbd.mono Bc.size)
      have ra4 := ra3.on hbd
      have rb4 := rb3.on hbd
      have hzd := hbd.size
      have hltd := zd.lt
      go_wp2_with (first
        | (with_reducible refine wpList_alloc_row (o := ⟨some 7, _, _, _, _, _⟩) rfl _ rfl zeros16 zero_b16 ?_; intro we re0 se ke)
        | (refine wpList_store_all (o := ⟨none, _, _, _, _, _⟩) rfl _ _ _ rfl wd.heap.size rfl _ _ re0 (bvs zero16B') rfl (bvs_one _) (b16_zeros _ (by rfl)) (b16_size _ (by rfl)) ?_; intro wf rf kf))
      have hbf : Below wd.heap.size wd wf := below_kept (grown_below ke (Nat.le_refl _) (by simp)) kf (by omega) (by rintro k hk; cases hk; exact Nat.le_refl _)
      have zf := zd.on hbf
      have ra5 := ra4.on hbf
      have rb5 := rb4.on hbf
      have Bf := Bd.trans (hbf.mono Bd.size)
      clear re0 rf ke kf
      obtain ⟨aa, rfl, haa, fa⟩ := ra5.2 (by omega)
      obtain ⟨ab, rfl, hab, fb⟩ := rb5.2 (by omega)
      have cZ0 : wf.cell? aa = some (.int .i64 0) := fa 0 _ Z0.out
      have cZ64 : wf.cell? (aa.add 64) = some (.int .i64 3) := fa 64 _ Z64.out
      have cZ65 : wf.cell? (aa.add 65) = some (.int .i64 0) := fa 65 _ Z65.out
      have cO0 : wf.cell? ab = some (.int .i64 3) := fb 0 _ O0.out
      have cO63 : wf.cell? (ab.add 63) = some (.int .i64 3) := fb 63 _ O63.out
      have cO64 : wf.cell? (ab.add 64) = some (.int .i64 0) := fb 64 _ O64.out
      have cO67 : wf.cell? (ab.add 67) = some (.int .i64 0) := fb 67 _ O67.out
      have s0 : wf.drew.cell? aa = some (.int .i64 0) ∧ wf.drew.cell? (aa.add 64) = some (.int .i64 3) ∧ wf.drew.cell? (aa.add 65) = some (.int .i64 0) ∧ wf.drew.cell? ab = some (.int .i64 3) ∧ wf.drew.cell? (ab.add 63) = some (.int .i64 3) ∧ wf.drew.cell? (ab.add 64) = some (.int .i64 0) ∧ wf.drew.cell? (ab.add 67) = some (.int .i64 0) ∧ Row wf.drew w.heap.size 23 (bvs Z) := ⟨cZ0, cZ64, cZ65, cO0, cO63, cO64, cO67, zf.drew⟩
      refine wp_region_plan (fun w' => w'.cell? aa = some (.int .i64 0) ∧ w'.cell? (aa.add 64) = some (.int .i64 3) ∧ w'.cell? (aa.add 65) = some (.int .i64 0) ∧ w'.cell? ab = some (.int .i64 3) ∧ w'.cell? (ab.add 63) = some (.int .i64 3) ∧ w'.cell? (ab.add 64) = some (.int .i64 0) ∧ w'.cell? (ab.add 67) = some (.int .i64 0) ∧ Row w' w.heap.size 23 (bvs Z)) (.take 0 <| .take 1 <| .take 2 <| .take 3 <| .take 4 <| .take 5 <| .take 6 <| .take 7 <| .take 8 <| .take 9 <| .take 10 <| .take 11 <| .take 12 <| .take 13 <| .take 14 <| .take 15 <| .take 16 <| .take 17 <| .take 18 <| .take 19 <| .take 20 <| .take 21 <| .take 22 <| .take 23 <| .take 24 <| .take 25 <| .take 26 <| .take 27 <| .take 28 <| .take 29 <| .take 30 <| .take 31 <| .take 32 <| .take 33 <| .take 34 <| .take 35 <| .take 36 <| .take 37 <| .take 38 <| .take 39 <| .take 40 <| .take 41 <| .one 42 <| .take 43 <| .take 44 <| .take 45 <| .take 46 <| .take 47 <| .take 48 <| .take 49 <| .take 50 <| .take 52 <| .one 51 <| .one 53 <| .take 54 <| .take 55 <| .take 56 <| .done) (by kernel_rfl) (by kernel_rfl) (by kernel_rfl) (fun _ _ _ _ _ h => h) s0 ?_
      repeat (refine plan_take _ rfl ?_; (first | (refine wpQuiet_valueG (o := ⟨some 37, _, _, _, _, _⟩) rfl _ (by intro _ h; exact exec_load1 _ 3 _ rfl _ rfl _ (h.1) _ Tryd.underlying3 rfl) (wpQuiet_nil ?_); simp only [Act.put, List.setIfInBounds_toArray, List.set_cons_zero, List.set_cons_succ]) | (refine wpQuiet_valueG (o := ⟨some 42, _, _, _, _, _⟩) rfl _ (by intro _ h; exact exec_load1 _ 3 _ rfl _ rfl _ (h.2.1) _ Tryd.underlying3 rfl) (wpQuiet_nil ?_); simp only [Act.put, List.setIfInBounds_toArray, List.set_cons_zero, List.set_cons_succ]) | (refine wpQuiet_valueG (o := ⟨some 48, _, _, _, _, _⟩) rfl _ (by intro _ h; exact exec_load1 _ 3 _ rfl _ rfl _ (h.2.2.1) _ Tryd.underlying3 rfl) (wpQuiet_nil ?_); simp only [Act.put, List.setIfInBounds_toArray, List.set_cons_zero, List.set_cons_succ]) | (refine wpQuiet_valueG (o := ⟨some 54, _, _, _, _, _⟩) rfl _ (by intro _ h; exact exec_load1 _ 3 _ rfl _ rfl _ (h.2.2.2.1) _ Tryd.underlying3 rfl) (wpQuiet_nil ?_); simp only [Act.put, List.setIfInBounds_toArray, List.set_cons_zero, List.set_cons_succ]) | (refine wpQuiet_valueG (o := ⟨some 60, _, _, _, _, _⟩) rfl _ (by intro _ h; exact exec_load1 _ 3 _ rfl _ rfl _ (h.2.2.2.2.1) _ Tryd.underlying3 rfl) (wpQuiet_nil ?_); simp only [Act.put, List.setIfInBounds_toArray, List.set_cons_zero, List.set_cons_succ]) | (refine wpQuiet_valueG (o := ⟨some 66, _, _, _, _, _⟩) rfl _ (by intro _ h; exact exec_load1 _ 3 _ rfl _ rfl _ (h.2.2.2.2.2.1) _ Tryd.underlying3 rfl) (wpQuiet_nil ?_); simp only [Act.put, List.setIfInBounds_toArray, List.set_cons_zero, List.set_cons_succ]) | (refine wpQuiet_valueG (o := ⟨some 72, _, _, _, _, _⟩) rfl _ (by intro _ h; exact exec_load1 _ 3 _ rfl _ rfl _ (h.2.2.2.2.2.2.1) _ Tryd.underlying3 rfl) (wpQuiet_nil ?_); simp only [Act.put, List.setIfInBounds_toArray, List.set_cons_zero, List.set_cons_succ]) | (refine wpQuiet_valueG (o := ⟨some 85, _, _, _, _, _⟩) rfl _ (by intro _ h; exact exec_load16 _ _ rfl _ rfl Z HZL.out (h.2.2.2.2.2.2.2).cells) (wpQuiet_nil ?_); simp only [Act.put, List.setIfInBounds_toArray, List.set_cons_zero, List.set_cons_succ]) | (refine wpQuiet_valueG (o := ⟨some 87, _, _, _, _, _⟩) rfl _ (by intro _ h; exact exec_load16 _ _ rfl _ rfl Z HZL.out (h.2.2.2.2.2.2.2).cells) (wpQuiet_nil ?_); simp only [Act.put, List.setIfInBounds_toArray, List.set_cons_zero, List.set_cons_succ]) | (refine wpQuiet_valueG (o := ⟨some 89, _, _, _, _, _⟩) rfl _ (by intro _ h; exact exec_neq16 _ _ _ rfl P1 P2 HL1.out HL2.out rfl rfl) (wpQuiet_nil ?_); simp only [Act.put, List.setIfInBounds_toArray, List.set_cons_zero, List.set_cons_succ]) | (go_big_quiet_step ((intros; rfl)); refine wpQuiet_nil ?_)))
      refine plan_one _ rfl fun K hK => ?_
      go_simp
      refine hK _ _ s0 ?_
      clear hK K
      repeat (refine plan_take _ rfl ?_; (first | (refine wpQuiet_valueG (o := ⟨some 37, _, _, _, _, _⟩) rfl _ (by intro _ h; exact exec_load1 _ 3 _ rfl _ rfl _ (h.1) _ Tryd.underlying3 rfl) (wpQuiet_nil ?_); simp only [Act.put, List.setIfInBounds_toArray, List.set_cons_zero, List.set_cons_succ]) | (refine wpQuiet_valueG (o := ⟨some 42, _, _, _, _, _⟩) rfl _ (by intro _ h; exact exec_load1 _ 3 _ rfl _ rfl _ (h.2.1) _ Tryd.underlying3 rfl) (wpQuiet_nil ?_); simp only [Act.put, List.setIfInBounds_toArray, List.set_cons_zero, List.set_cons_succ]) | (refine wpQuiet_valueG (o := ⟨some 48, _, _, _, _, _⟩) rfl _ (by intro _ h; exact exec_load1 _ 3 _ rfl _ rfl _ (h.2.2.1) _ Tryd.underlying3 rfl) (wpQuiet_nil ?_); simp only [Act.put, List.setIfInBounds_toArray, List.set_cons_zero, List.set_cons_succ]) | (refine wpQuiet_valueG (o := ⟨some 54, _, _, _, _, _⟩) rfl _ (by intro _ h; exact exec_load1 _ 3 _ rfl _ rfl _ (h.2.2.2.1) _ Tryd.underlying3 rfl) (wpQuiet_nil ?_); simp only [Act.put, List.setIfInBounds_toArray, List.set_cons_zero, List.set_cons_succ]) | (refine wpQuiet_valueG (o := ⟨some 60, _, _, _, _, _⟩) rfl _ (by intro _ h; exact exec_load1 _ 3 _ rfl _ rfl _ (h.2.2.2.2.1) _ Tryd.underlying3 rfl) (wpQuiet_nil ?_); simp only [Act.put, List.setIfInBounds_toArray, List.set_cons_zero, List.set_cons_succ]) | (refine wpQuiet_valueG (o := ⟨some 66, _, _, _, _, _⟩) rfl _ (by intro _ h; exact exec_load1 _ 3 _ rfl _ rfl _ (h.2.2.2.2.2.1) _ Tryd.underlying3 rfl) (wpQuiet_nil ?_); simp only [Act.put, List.setIfInBounds_toArray, List.set_cons_zero, List.set_cons_succ]) | (refine wpQuiet_valueG (o := ⟨some 72, _, _, _, _, _⟩) rfl _ (by intro _ h; exact exec_load1 _ 3 _ rfl _ rfl _ (h.2.2.2.2.2.2.1) _ Tryd.underlying3 rfl) (wpQuiet_nil ?_); simp only [Act.put, List.setIfInBounds_toArray, List.set_cons_zero, List.set_cons_succ]) | (refine wpQuiet_valueG (o := ⟨some 85, _, _, _, _, _⟩) rfl _ (by intro _ h; exact exec_load16 _ _ rfl _ rfl Z HZL.out (h.2.2.2.2.2.2.2).cells) (wpQuiet_nil ?_); simp only [Act.put, List.setIfInBounds_toArray, List.set_cons_zero, List.set_cons_succ]) | (refine wpQuiet_valueG (o := ⟨some 87, _, _, _, _, _⟩) rfl _ (by intro _ h; exact exec_load16 _ _ rfl _ rfl Z HZL.out (h.2.2.2.2.2.2.2).cells) (wpQuiet_nil ?_); simp only [Act.put, List.setIfInBounds_toArray, List.set_cons_zero, List.set_cons_succ]) | (refine wpQuiet_valueG (o := ⟨some 89, _, _, _, _, _⟩) rfl _ (by intro _ h; exact exec_neq16 _ _ _ rfl P1 P2 HL1.out HL2.out rfl rfl) (wpQuiet_nil ?_); simp only [Act.put, List.setIfInBounds_toArray, List.set_cons_zero, List.set_cons_succ]) | (go_big_quiet_step ((intros; rfl)); refine wpQuiet_nil ?_)))
      refine plan_one _ rfl fun K hK => ?_
      go_simp
      refine (HP1 _ (hCo.on Bf.drew)).out.mono ?_
      rintro e wp1 ⟨rfl, hb1⟩
      have B1 := Bf.drew.trans (hb1.mono Bf.drew.size)
      have s1 : wp1.cell? aa = some (.int .i64 0) ∧ wp1.cell? (aa.add 64) = some (.int .i64 3) ∧ wp1.cell? (aa.add 65) = some (.int .i64 0) ∧ wp1.cell? ab = some (.int .i64 3) ∧ wp1.cell? (ab.add 63) = some (.int .i64 3) ∧ wp1.cell? (ab.add 64) = some (.int .i64 0) ∧ wp1.cell? (ab.add 67) = some (.int .i64 0) ∧ Row wp1 w.heap.size 23 (bvs Z) := ⟨(hb1.cell (by exact haa)).trans (s0).1, (hb1.cell (by rw [block_of_add]; exact haa)).trans (s0).2.1, (hb1.cell (by rw [block_of_add]; exact haa)).trans (s0).2.2.1, (hb1.cell (by exact hab)).trans (s0).2.2.2.1, (hb1.cell (by rw [block_of_add]; exact hab)).trans (s0).2.2.2.2.1, (hb1.cell (by rw [block_of_add]; exact hab)).trans (s0).2.2.2.2.2.1, (hb1.cell (by rw [block_of_add]; exact hab)).trans (s0).2.2.2.2.2.2.1, ((s0).2.2.2.2.2.2.2).on hb1⟩
      have haa1 := Nat.lt_of_lt_of_le haa hb1.size
      have hab1 := Nat.lt_of_lt_of_le hab hb1.size
      refine hK _ _ s1 ?_
      clear hK K
      refine plan_one _ rfl fun K hK => ?_
      go_simp
      refine (HP2 _ (hCo.on B1)).out.mono ?_
      rintro e wp2 ⟨rfl, hb2⟩
      have B2 := B1.trans (hb2.mono B1.size)
      have s2 : wp2.cell? aa = some (.int .i64 0) ∧ wp2.cell? (aa.add 64) = some (.int .i64 3) ∧ wp2.cell? (aa.add 65) = some (.int .i64 0) ∧ wp2.cell? ab = some (.int .i64 3) ∧ wp2.cell? (ab.add 63) = some (.int .i64 3) ∧ wp2.cell? (ab.add 64) = some (.int .i64 0) ∧ wp2.cell? (ab.add 67) = some (.int .i64 0) ∧ Row wp2 w.heap.size 23 (bvs Z) := ⟨(hb2.cell (by exact haa1)).trans (s1).1, (hb2.cell (by rw [block_of_add]; exact haa1)).trans (s1).2.1, (hb2.cell (by rw [block_of_add]; exact haa1)).trans (s1).2.2.1, (hb2.cell (by exact hab1)).trans (s1).2.2.2.1, (hb2.cell (by rw [block_of_add]; exact hab1)).trans (s1).2.2.2.2.1, (hb2.cell (by rw [block_of_add]; exact hab1)).trans (s1).2.2.2.2.2.1, (hb2.cell (by rw [block_of_add]; exact hab1)).trans (s1).2.2.2.2.2.2.1, ((s1).2.2.2.2.2.2.2).on hb2⟩
      have haa2 := Nat.lt_of_lt_of_le haa1 hb2.size
      have hab2 := Nat.lt_of_lt_of_le hab1 hb2.size
      refine hK _ _ s2 ?_
      clear hK K
      repeat (refine plan_take _ rfl ?_; (first | (refine wpQuiet_valueG (o := ⟨some 37, _, _, _, _, _⟩) rfl _ (by intro _ h; exact exec_load1 _ 3 _ rfl _ rfl _ (h.1) _ Tryd.underlying3 rfl) (wpQuiet_nil ?_); simp only [Act.put, List.setIfInBounds_toArray, List.set_cons_zero, List.set_cons_succ]) | (refine wpQuiet_valueG (o := ⟨some 42, _, _, _, _, _⟩) rfl _ (by intro _ h; exact exec_load1 _ 3 _ rfl _ rfl _ (h.2.1) _ Tryd.underlying3 rfl) (wpQuiet_nil ?_); simp only [Act.put, List.setIfInBounds_toArray, List.set_cons_zero, List.set_cons_succ]) | (refine wpQuiet_valueG (o := ⟨some 48, _, _, _, _, _⟩) rfl _ (by intro _ h; exact exec_load1 _ 3 _ rfl _ rfl _ (h.2.2.1) _ Tryd.underlying3 rfl) (wpQuiet_nil ?_); simp only [Act.put, List.setIfInBounds_toArray, List.set_cons_zero, List.set_cons_succ]) | (refine wpQuiet_valueG (o := ⟨some 54, _, _, _, _, _⟩) rfl _ (by intro _ h; exact exec_load1 _ 3 _ rfl _ rfl _ (h.2.2.2.1) _ Tryd.underlying3 rfl) (wpQuiet_nil ?_); simp only [Act.put, List.setIfInBounds_toArray, List.set_cons_zero, List.set_cons_succ]) | (refine wpQuiet_valueG (o := ⟨some 60, _, _, _, _, _⟩) rfl _ (by intro _ h; exact exec_load1 _ 3 _ rfl _ rfl _ (h.2.2.2.2.1) _ Tryd.underlying3 rfl) (wpQuiet_nil ?_); simp only [Act.put, List.setIfInBounds_toArray, List.set_cons_zero, List.set_cons_succ]) | (refine wpQuiet_valueG (o := ⟨some 66, _, _, _, _, _⟩) rfl _ (by intro _ h; exact exec_load1 _ 3 _ rfl _ rfl _ (h.2.2.2.2.2.1) _ Tryd.underlying3 rfl) (wpQuiet_nil ?_); simp only [Act.put, List.setIfInBounds_toArray, List.set_cons_zero, List.set_cons_succ]) | (refine wpQuiet_valueG (o := ⟨some 72, _, _, _, _, _⟩) rfl _ (by intro _ h; exact exec_load1 _ 3 _ rfl _ rfl _ (h.2.2.2.2.2.2.1) _ Tryd.underlying3 rfl) (wpQuiet_nil ?_); simp only [Act.put, List.setIfInBounds_toArray, List.set_cons_zero, List.set_cons_succ]) | (refine wpQuiet_valueG (o := ⟨some 85, _, _, _, _, _⟩) rfl _ (by intro _ h; exact exec_load16 _ _ rfl _ rfl Z HZL.out (h.2.2.2.2.2.2.2).cells) (wpQuiet_nil ?_); simp only [Act.put, List.setIfInBounds_toArray, List.set_cons_zero, List.set_cons_succ]) | (refine wpQuiet_valueG (o := ⟨some 87, _, _, _, _, _⟩) rfl _ (by intro _ h; exact exec_load16 _ _ rfl _ rfl Z HZL.out (h.2.2.2.2.2.2.2).cells) (wpQuiet_nil ?_); simp only [Act.put, List.setIfInBounds_toArray, List.set_cons_zero, List.set_cons_succ]) | (refine wpQuiet_valueG (o := ⟨some 89, _, _, _, _, _⟩) rfl _ (by intro _ h; exact exec_neq16 _ _ _ rfl P1 P2 HL1.out HL2.out rfl rfl) (wpQuiet_nil ?_); simp only [Act.put, List.setIfInBounds_toArray, List.set_cons_zero, List.set_cons_succ]) | (go_big_quiet_step ((intros; rfl)); refine wpQuiet_nil ?_)))
      refine plan_done ?_
      go_wp2_with fail
      go_ret
      have hq : (P1 == P2) = false := by simp only [beq_eq_false_iff_ne, ne_eq]; exact HPN.out
      exact ⟨by show Ending.returned (Value.bool (!(P1 == P2))) = _; rw [hq]; rfl, B2⟩
end Go.Proofs.YtojdondipkbjhaaDoor
