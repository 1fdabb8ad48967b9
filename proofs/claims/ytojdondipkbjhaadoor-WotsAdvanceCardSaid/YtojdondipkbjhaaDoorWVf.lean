/-
  WotsVerifies's walk. Condition: the table of constants as laid.
-/
import Derived.Test.YtojdondipkbjhaaDoorSan4
namespace Go.Proofs.YtojdondipkbjhaaDoor
open Go.RowKit

theorem own_digs {w : World} {base n : Nat} {v : Value} {ds : List (List UInt8)} (h : w.ownsRow base 23 16 v n (bvs ds.flatten)) (h16 : Len16 ds) : ∃ A c, v = .slice A n c ∧ n ≤ c ∧ ReadsD w A n ds := by
  obtain ⟨A, c, e, hc, _, hr⟩ := own_form h
  exact ⟨A, c, e, hc, hr, h16⟩

set_option maxRecDepth 100000 in
set_option maxHeartbeats 2000000 in
theorem walkVf (seed msg : List UInt8) (hs : seed.length = 16) (hm : msg.length = 16) (index : Int) (h1 : -9223372036854775808 ≤ index) (h2 : index ≤ 9223372036854775807) (w : World) (hK : Consts w) :
    Calls Tryd.prog 4 #[.agg (bvs seed).toArray, .int .i64 index, .agg (bvs msg).toArray] w fun e w' => e = .returned (.bool true) ∧ Below w.heap.size w w' := by
  have HS := Lib.hid hs
  have HM := Lib.hid hm
  have HPL : Hid ((wPub seed index).length = 16) := by show _ = _; unfold wPub digestB; rw [List.length_take, sha_len]; rfl
  have HKS := Lib.hid (wKey_sign seed index msg)
  have HSL := Lib.hid (wSign_len seed index msg)
  have HS16 : Hid (Len16 (wSign seed index msg)) := fun d hd => by
    obtain ⟨k, hk, rfl⟩ := List.mem_map.1 hd
    exact wAdv_len k (wStart_len seed index k) _
  have HSG := fun W hW => Lib.hid (sign_any seed msg hs hm index h1 h2 W hW)
  have HPU := fun W hW => Lib.hid (public_any seed hs index h1 h2 W hW)
  have HRC := fun A c W hW hr hc => Lib.hid (recover_any A c msg (wSign seed index msg) W hW hm hr hc)
  generalize wSign seed index msg = SG at *
  generalize wPub seed index = PU at *
  clear hs hm
  go_enter Tryd.func4, Tryd.ntmps4
  go_wp2_with (first
    | (with_reducible refine wpList_box_row (o := ⟨some 3, _, _, _, _, _⟩) rfl _ _ rfl (bvs seed) rfl ?_; intro w1 hrow1 hs1 hg1)
    | (with_reducible refine wpList_box_row (o := ⟨some 5, _, _, _, _, _⟩) rfl _ _ rfl (bvs msg) rfl ?_; intro w2 hrow2 hs2 hg2))
  have hCo := hK
  have hrow1' := hrow1.kept hg2 (by simp)
  have hb2 : Below w.heap.size w w2 := below_kept (grown_below hg1 (Nat.le_refl _) (by simp)) hg2 (by omega) (by simp)
  have hlt2 := hrow2.lt
  clear hrow1 hg1 hg2
  go_cut [7, 8] (fun s7 s8 wc => ∃ g, s7 = .pointer (some ⟨g, 0, none⟩) ∧ s8 = .int .i64 0 ∧ Row wc g 23 (bvs PU) ∧ Row wc w.heap.size 23 (bvs seed) ∧ Below w.heap.size w wc)
  case first =>
    have zd : w2.drew.heap.size = w2.heap.size := rfl
    refine wp_region_plan (fun w' => Row w' w.heap.size 23 (bvs seed) ∧ Row w' w1.heap.size 23 (bvs msg)) (.take 0 <| .take 1 <| .take 2 <| .take 3 <| .two 4 (.two 5 (.take 6 <| .take 7 <| .take 8 <| .one 9 <| .one 10 <| .take 11 <| .done) 9 (.one 5 <| .take 6 <| .take 7 <| .take 8 <| .one 10 <| .take 11 <| .done)) 9 (.one 4 <| .one 5 <| .take 6 <| .take 7 <| .take 8 <| .one 10 <| .take 11 <| .done)) (by kernel_rfl) (by kernel_rfl) (by kernel_rfl) (fun _ _ _ _ _ h => h) ⟨hrow1'.drew, hrow2.drew⟩ ?_
    repeat (refine plan_take _ rfl ?_; (first | (refine wpQuiet_valueG (o := ⟨some 10, _, _, _, _, _⟩) rfl _ (by intro _ h; exact exec_load16 _ _ rfl _ rfl msg HM.out h.2.cells) (wpQuiet_nil ?_); simp only [Act.put, List.setIfInBounds_toArray, List.set_cons_zero, List.set_cons_succ]) | (refine wpQuiet_valueG (o := ⟨some 11, _, _, _, _, _⟩) rfl _ (by intro _ h; exact exec_load16 _ _ rfl _ rfl seed HS.out h.1.cells) (wpQuiet_nil ?_); simp only [Act.put, List.setIfInBounds_toArray, List.set_cons_zero, List.set_cons_succ]) | (refine wpQuiet_valueG (o := ⟨some 13, _, _, _, _, _⟩) rfl _ (by intro _ h; exact exec_load16 _ _ rfl _ rfl msg HM.out h.2.cells) (wpQuiet_nil ?_); simp only [Act.put, List.setIfInBounds_toArray, List.set_cons_zero, List.set_cons_succ]) | (go_big_quiet_step ((intros; rfl)); refine wpQuiet_nil ?_)))
    refine plan_two ?_ ?_
    · refine step_at _ rfl fun K hK => ?_
      go_simp
      refine ((HSG _ (hCo.on hb2.drew)).out).mono ?_
      rintro e wx1 ⟨vx1, rfl, ox1, hx1⟩
      obtain ⟨Ax1, cx1, rfl, hcx1, dgx1⟩ := own_digs ox1 HS16.out
      rw [HSL.out] at hcx1 dgx1 ⊢
      have hcap := hcx1
      have Bx2 := hb2.drew.trans (hx1.mono hb2.drew.size)
      have rsx2 := hrow1'.drew.on hx1
      have rmx2 := hrow2.drew.on hx1
      have Kx2 := (hCo.on hb2.drew).on hx1
      refine hK _ _ ⟨rsx2, rmx2⟩ ?_
      clear hK K
      refine plan_two ?_ ?_
      · refine step_at _ rfl fun K hK => ?_
        go_simp
        refine ((HRC _ _ _ Kx2 dgx1 hcap).out).mono ?_
        rintro e wx3 ⟨rfl, hx3⟩
        rw [HKS.out]
        have Bx4 := Bx2.trans (hx3.mono Bx2.size)
        have rsx4 := rsx2.on hx3
        have rmx4 := rmx2.on hx3
        have Kx4 := Kx2.on hx3
        have Rx4 := dgx1.on hx3
        refine hK _ _ ⟨rsx4, rmx4⟩ ?_
        clear hK K
        repeat (refine plan_take _ rfl ?_; (first | (refine wpQuiet_valueG (o := ⟨some 10, _, _, _, _, _⟩) rfl _ (by intro _ h; exact exec_load16 _ _ rfl _ rfl msg HM.out h.2.cells) (wpQuiet_nil ?_); simp only [Act.put, List.setIfInBounds_toArray, List.set_cons_zero, List.set_cons_succ]) | (refine wpQuiet_valueG (o := ⟨some 11, _, _, _, _, _⟩) rfl _ (by intro _ h; exact exec_load16 _ _ rfl _ rfl seed HS.out h.1.cells) (wpQuiet_nil ?_); simp only [Act.put, List.setIfInBounds_toArray, List.set_cons_zero, List.set_cons_succ]) | (refine wpQuiet_valueG (o := ⟨some 13, _, _, _, _, _⟩) rfl _ (by intro _ h; exact exec_load16 _ _ rfl _ rfl msg HM.out h.2.cells) (wpQuiet_nil ?_); simp only [Act.put, List.setIfInBounds_toArray, List.set_cons_zero, List.set_cons_succ]) | (go_big_quiet_step ((intros; rfl)); refine wpQuiet_nil ?_)))
        refine plan_one _ rfl fun K hK => ?_
        refine step_alloc rfl _ rfl zeros16 zero_b16 ?_
        intro wx5 rx5 sx5 kx5
        have hx5 : Below wx3.heap.size wx3 wx5 := grown_below kx5 (Nat.le_refl _) (by simp)
        have zzx5 := Bx4.size
        have zrsx5 := rsx4.lt
        have zrmx5 := rmx4.lt
        have Bx6 := Bx4.trans (hx5.mono Bx4.size)
        have rsx6 := rsx4.on hx5
        have rmx6 := rmx4.on hx5
        have Kx6 := Kx4.on hx5
        have Rx6 := Rx4.on hx5
        refine hK _ _ ⟨rsx6, rmx6⟩ ?_
        clear hK K
        simp only [Act.put, List.setIfInBounds_toArray, List.set_cons_zero, List.set_cons_succ]
        refine plan_one _ rfl fun K hK => ?_
        refine step_store_all rfl _ _ _ rfl wx3.heap.size rfl _ _ rx5 (bvs PU) rfl (bvs_one _) (b16_zeros _ HPL.out) (b16_size _ HPL.out) ?_
        intro wx7 rx7 kx7
        have Bx7 := below_kept Bx6 kx7 Bx6.size (by rintro k hk; cases hk; exact zzx5)
        have rsx7 := rsx6.kept kx7 (by simp; omega)
        have rmx7 := rmx6.kept kx7 (by simp; omega)
        have Kx7 := hCo.on Bx7
        refine hK _ _ ⟨rsx7, rmx7⟩ ?_
        clear hK K
        simp only [Act.put]
        repeat (refine plan_take _ rfl ?_; (first | (refine wpQuiet_valueG (o := ⟨some 10, _, _, _, _, _⟩) rfl _ (by intro _ h; exact exec_load16 _ _ rfl _ rfl msg HM.out h.2.cells) (wpQuiet_nil ?_); simp only [Act.put, List.setIfInBounds_toArray, List.set_cons_zero, List.set_cons_succ]) | (refine wpQuiet_valueG (o := ⟨some 11, _, _, _, _, _⟩) rfl _ (by intro _ h; exact exec_load16 _ _ rfl _ rfl seed HS.out h.1.cells) (wpQuiet_nil ?_); simp only [Act.put, List.setIfInBounds_toArray, List.set_cons_zero, List.set_cons_succ]) | (refine wpQuiet_valueG (o := ⟨some 13, _, _, _, _, _⟩) rfl _ (by intro _ h; exact exec_load16 _ _ rfl _ rfl msg HM.out h.2.cells) (wpQuiet_nil ?_); simp only [Act.put, List.setIfInBounds_toArray, List.set_cons_zero, List.set_cons_succ]) | (go_big_quiet_step ((intros; rfl)); refine wpQuiet_nil ?_)))
        refine plan_done ?_
        go_wp2_with fail
        go_meet
        exact ⟨_, rfl, rfl, rx7, rsx7, Bx7⟩
      · refine step_at _ rfl fun K hK => ?_
        refine step_alloc rfl _ rfl zeros16 zero_b16 ?_
        intro wx8 rx8 sx8 kx8
        have hx8 : Below wx1.heap.size wx1 wx8 := grown_below kx8 (Nat.le_refl _) (by simp)
        have zzx8 := Bx2.size
        have zrsx8 := rsx2.lt
        have zrmx8 := rmx2.lt
        have Bx9 := Bx2.trans (hx8.mono Bx2.size)
        have rsx9 := rsx2.on hx8
        have rmx9 := rmx2.on hx8
        have Kx9 := Kx2.on hx8
        have Rx9 := dgx1.on hx8
        refine hK _ _ ⟨rsx9, rmx9⟩ ?_
        clear hK K
        simp only [Act.put, List.setIfInBounds_toArray, List.set_cons_zero, List.set_cons_succ]
        refine plan_one _ rfl fun K hK => ?_
        go_simp
        refine ((HRC _ _ _ Kx9 Rx9 hcap).out).mono ?_
        rintro e wx10 ⟨rfl, hx10⟩
        rw [HKS.out]
        have Bx11 := Bx9.trans (hx10.mono Bx9.size)
        have rsx11 := rsx9.on hx10
        have rmx11 := rmx9.on hx10
        have Kx11 := Kx9.on hx10
        have Rx11 := Rx9.on hx10
        have nx11 := rx8.on hx10
        refine hK _ _ ⟨rsx11, rmx11⟩ ?_
        clear hK K
        repeat (refine plan_take _ rfl ?_; (first | (refine wpQuiet_valueG (o := ⟨some 10, _, _, _, _, _⟩) rfl _ (by intro _ h; exact exec_load16 _ _ rfl _ rfl msg HM.out h.2.cells) (wpQuiet_nil ?_); simp only [Act.put, List.setIfInBounds_toArray, List.set_cons_zero, List.set_cons_succ]) | (refine wpQuiet_valueG (o := ⟨some 11, _, _, _, _, _⟩) rfl _ (by intro _ h; exact exec_load16 _ _ rfl _ rfl seed HS.out h.1.cells) (wpQuiet_nil ?_); simp only [Act.put, List.setIfInBounds_toArray, List.set_cons_zero, List.set_cons_succ]) | (refine wpQuiet_valueG (o := ⟨some 13, _, _, _, _, _⟩) rfl _ (by intro _ h; exact exec_load16 _ _ rfl _ rfl msg HM.out h.2.cells) (wpQuiet_nil ?_); simp only [Act.put, List.setIfInBounds_toArray, List.set_cons_zero, List.set_cons_succ]) | (go_big_quiet_step ((intros; rfl)); refine wpQuiet_nil ?_)))
        refine plan_one _ rfl fun K hK => ?_
        refine step_store_all rfl _ _ _ rfl wx1.heap.size rfl _ _ nx11 (bvs PU) rfl (bvs_one _) (b16_zeros _ HPL.out) (b16_size _ HPL.out) ?_
        intro wx12 rx12 kx12
        have Bx12 := below_kept Bx11 kx12 Bx11.size (by rintro k hk; cases hk; exact zzx8)
        have rsx12 := rsx11.kept kx12 (by simp; omega)
        have rmx12 := rmx11.kept kx12 (by simp; omega)
        have Kx12 := hCo.on Bx12
        refine hK _ _ ⟨rsx12, rmx12⟩ ?_
        clear hK K
        simp only [Act.put]
        repeat (refine plan_take _ rfl ?_; (first | (refine wpQuiet_valueG (o := ⟨some 10, _, _, _, _, _⟩) rfl _ (by intro _ h; exact exec_load16 _ _ rfl _ rfl msg HM.out h.2.cells) (wpQuiet_nil ?_); simp only [Act.put, List.setIfInBounds_toArray, List.set_cons_zero, List.set_cons_succ]) | (refine wpQuiet_valueG (o := ⟨some 11, _, _, _, _, _⟩) rfl _ (by intro _ h; exact exec_load16 _ _ rfl _ rfl seed HS.out h.1.cells) (wpQuiet_nil ?_); simp only [Act.put, List.setIfInBounds_toArray, List.set_cons_zero, List.set_cons_succ]) | (refine wpQuiet_valueG (o := ⟨some 13, _, _, _, _, _⟩) rfl _ (by intro _ h; exact exec_load16 _ _ rfl _ rfl msg HM.out h.2.cells) (wpQuiet_nil ?_); simp only [Act.put, List.setIfInBounds_toArray, List.set_cons_zero, List.set_cons_succ]) | (go_big_quiet_step ((intros; rfl)); refine wpQuiet_nil ?_)))
        refine plan_done ?_
        go_wp2_with fail
        go_meet
        exact ⟨_, rfl, rfl, rx12, rsx12, Bx12⟩
    · refine step_at _ rfl fun K hK => ?_
      refine step_alloc rfl _ rfl zeros16 zero_b16 ?_
      intro wx13 rx13 sx13 kx13
      have hx13 : Below w2.drew.heap.size w2.drew wx13 := grown_below kx13 (Nat.le_refl _) (by simp)
      have zzx13 := hb2.drew.size
      have zrsx13 := hrow1'.drew.lt
      have zrmx13 := hrow2.drew.lt
      have Bx14 := hb2.drew.trans (hx13.mono hb2.drew.size)
      have rsx14 := hrow1'.drew.on hx13
      have rmx14 := hrow2.drew.on hx13
      have Kx14 := (hCo.on hb2.drew).on hx13
      refine hK _ _ ⟨rsx14, rmx14⟩ ?_
      clear hK K
      simp only [Act.put, List.setIfInBounds_toArray, List.set_cons_zero, List.set_cons_succ]
      refine plan_one _ rfl fun K hK => ?_
      go_simp
      refine ((HSG _ Kx14).out).mono ?_
      rintro e wx15 ⟨vx15, rfl, ox15, hx15⟩
      obtain ⟨Ax15, cx15, rfl, hcx15, dgx15⟩ := own_digs ox15 HS16.out
      rw [HSL.out] at hcx15 dgx15 ⊢
      have hcap := hcx15
      have Bx16 := Bx14.trans (hx15.mono Bx14.size)
      have rsx16 := rsx14.on hx15
      have rmx16 := rmx14.on hx15
      have Kx16 := Kx14.on hx15
      have nx16 := rx13.on hx15
      refine hK _ _ ⟨rsx16, rmx16⟩ ?_
      clear hK K
      refine plan_one _ rfl fun K hK => ?_
      go_simp
      refine ((HRC _ _ _ Kx16 dgx15 hcap).out).mono ?_
      rintro e wx17 ⟨rfl, hx17⟩
      rw [HKS.out]
      have Bx18 := Bx16.trans (hx17.mono Bx16.size)
      have rsx18 := rsx16.on hx17
      have rmx18 := rmx16.on hx17
      have Kx18 := Kx16.on hx17
      have nx18 := nx16.on hx17
      have Rx18 := dgx15.on hx17
      refine hK _ _ ⟨rsx18, rmx18⟩ ?_
      clear hK K
      repeat (refine plan_take _ rfl ?_; (first | (refine wpQuiet_valueG (o := ⟨some 10, _, _, _, _, _⟩) rfl _ (by intro _ h; exact exec_load16 _ _ rfl _ rfl msg HM.out h.2.cells) (wpQuiet_nil ?_); simp only [Act.put, List.setIfInBounds_toArray, List.set_cons_zero, List.set_cons_succ]) | (refine wpQuiet_valueG (o := ⟨some 11, _, _, _, _, _⟩) rfl _ (by intro _ h; exact exec_load16 _ _ rfl _ rfl seed HS.out h.1.cells) (wpQuiet_nil ?_); simp only [Act.put, List.setIfInBounds_toArray, List.set_cons_zero, List.set_cons_succ]) | (refine wpQuiet_valueG (o := ⟨some 13, _, _, _, _, _⟩) rfl _ (by intro _ h; exact exec_load16 _ _ rfl _ rfl msg HM.out h.2.cells) (wpQuiet_nil ?_); simp only [Act.put, List.setIfInBounds_toArray, List.set_cons_zero, List.set_cons_succ]) | (go_big_quiet_step ((intros; rfl)); refine wpQuiet_nil ?_)))
      refine plan_one _ rfl fun K hK => ?_
      refine step_store_all rfl _ _ _ rfl w2.drew.heap.size rfl _ _ nx18 (bvs PU) rfl (bvs_one _) (b16_zeros _ HPL.out) (b16_size _ HPL.out) ?_
      intro wx19 rx19 kx19
      have Bx19 := below_kept Bx18 kx19 Bx18.size (by rintro k hk; cases hk; exact zzx13)
      have rsx19 := rsx18.kept kx19 (by simp; omega)
      have rmx19 := rmx18.kept kx19 (by simp; omega)
      have Kx19 := hCo.on Bx19
      refine hK _ _ ⟨rsx19, rmx19⟩ ?_
      clear hK K
      simp only [Act.put]
      repeat (refine plan_take _ rfl ?_; (first | (refine wpQuiet_valueG (o := ⟨some 10, _, _, _, _, _⟩) rfl _ (by intro _ h; exact exec_load16 _ _ rfl _ rfl msg HM.out h.2.cells) (wpQuiet_nil ?_); simp only [Act.put, List.setIfInBounds_toArray, List.set_cons_zero, List.set_cons_succ]) | (refine wpQuiet_valueG (o := ⟨some 11, _, _, _, _, _⟩) rfl _ (by intro _ h; exact exec_load16 _ _ rfl _ rfl seed HS.out h.1.cells) (wpQuiet_nil ?_); simp only [Act.put, List.setIfInBounds_toArray, List.set_cons_zero, List.set_cons_succ]) | (refine wpQuiet_valueG (o := ⟨some 13, _, _, _, _, _⟩) rfl _ (by intro _ h; exact exec_load16 _ _ rfl _ rfl msg HM.out h.2.cells) (wpQuiet_nil ?_); simp only [Act.put, List.setIfInBounds_toArray, List.set_cons_zero, List.set_cons_succ]) | (go_big_quiet_step ((intros; rfl)); refine wpQuiet_nil ?_)))
      refine plan_done ?_
      go_wp2_with fail
      go_meet
      exact ⟨_, rfl, rfl, rx19, rsx19, Bx19⟩
  case rest =>
    obtain ⟨g7, rfl, rfl, r7, rs, hbd⟩ := hcut
    go_wp2_with fail
    refine wp_region_plan (fun w' => Row w' g7 23 (bvs PU) ∧ Row w' w.heap.size 23 (bvs seed)) (.one 0 <| .take 1 <| .take 2 <| .take 3 <| .take 4 <| .take 5 <| .take 6 <| .take 7 <| .take 8 <| .one 9 <| .take 10 <| .take 11 <| .take 12 <| .done) (by kernel_rfl) (by kernel_rfl) (by kernel_rfl) (fun _ _ _ _ _ h => h) ⟨r7.drew, rs.drew⟩ ?_
    refine plan_one _ rfl fun K hK => ?_
    go_simp
    refine (san4_any _ (hCo.on hbd.drew)).mono ?_
    rintro e wx20 ⟨rfl, hx20⟩
    have Bx21 := hbd.drew.trans (hx20.mono hbd.drew.size)
    have r7x21 := r7.drew.on hx20
    have rsx21 := rs.drew.on hx20
    have Kx21 := (hCo.on hbd.drew).on hx20
    refine hK _ _ ⟨r7x21, rsx21⟩ ?_
    clear hK K
    repeat (refine plan_take _ rfl ?_; (first | (refine wpQuiet_valueG (o := ⟨some 24, _, _, _, _, _⟩) rfl _ (by intro _ h; exact exec_load16 _ _ rfl _ rfl PU HPL.out h.1.cells) (wpQuiet_nil ?_); simp only [Act.put, List.setIfInBounds_toArray, List.set_cons_zero, List.set_cons_succ]) | (refine wpQuiet_valueG (o := ⟨some 25, _, _, _, _, _⟩) rfl _ (by intro _ h; exact exec_load16 _ _ rfl _ rfl seed HS.out h.2.cells) (wpQuiet_nil ?_); simp only [Act.put, List.setIfInBounds_toArray, List.set_cons_zero, List.set_cons_succ]) | (refine wpQuiet_valueG (o := ⟨some 28, _, _, _, _, _⟩) rfl _ (by intro _ h; exact exec_eql16 _ _ _ rfl PU PU HPL.out HPL.out rfl rfl) (wpQuiet_nil ?_); simp only [Act.put, List.setIfInBounds_toArray, List.set_cons_zero, List.set_cons_succ]) | (go_big_quiet_step ((intros; rfl)); refine wpQuiet_nil ?_)))
    refine plan_one _ rfl fun K hK => ?_
    go_simp
    refine ((HPU _ Kx21).out).mono ?_
    rintro e wx22 ⟨rfl, hx22⟩
    have Bx23 := Bx21.trans (hx22.mono Bx21.size)
    have r7x23 := r7x21.on hx22
    have rsx23 := rsx21.on hx22
    have Kx23 := Kx21.on hx22
    refine hK _ _ ⟨r7x23, rsx23⟩ ?_
    clear hK K
    repeat (refine plan_take _ rfl ?_; (first | (refine wpQuiet_valueG (o := ⟨some 24, _, _, _, _, _⟩) rfl _ (by intro _ h; exact exec_load16 _ _ rfl _ rfl PU HPL.out h.1.cells) (wpQuiet_nil ?_); simp only [Act.put, List.setIfInBounds_toArray, List.set_cons_zero, List.set_cons_succ]) | (refine wpQuiet_valueG (o := ⟨some 25, _, _, _, _, _⟩) rfl _ (by intro _ h; exact exec_load16 _ _ rfl _ rfl seed HS.out h.2.cells) (wpQuiet_nil ?_); simp only [Act.put, List.setIfInBounds_toArray, List.set_cons_zero, List.set_cons_succ]) | (refine wpQuiet_valueG (o := ⟨some 28, _, _, _, _, _⟩) rfl _ (by intro _ h; exact exec_eql16 _ _ _ rfl PU PU HPL.out HPL.out rfl rfl) (wpQuiet_nil ?_); simp only [Act.put, List.setIfInBounds_toArray, List.set_cons_zero, List.set_cons_succ]) | (go_big_quiet_step ((intros; rfl)); refine wpQuiet_nil ?_)))
    refine plan_done ?_
    go_wp2_with fail
    go_ret
    exact ⟨rfl, Bx23⟩
end Go.Proofs.YtojdondipkbjhaaDoor
