/-
  The law file's sanity examples: a walk. No condition.
-/
import Derived.Test.YtkepmhkakkkliaaDvD
import Derived.Test.YtkepmhkakkkliaaDvN
import Derived.Test.YtkepmhkakkkliaaDvT
namespace Go.Proofs.Ytkepmhkakkkliaa
open Go.RowKit

def rt5 : List UInt8 := 5 :: List.replicate 15 0
theorem rt5_len : rt5.length = 16 := rfl
def s9F : List ByteArray := flNew 128
def s9S : ByteArray := flW (fullS 97) 3 (fullS 0)
def s9H : DvS := ⟨[[0, 0, 0, 0, 0, 0], [0, 0, 0]], s9F, rt5⟩
def s9X : DvS := ⟨[[0, 0, 0, 0, 0, 0], [0, 0, 0]], flWrite s9F 1 (fullS 97) 3, rt5⟩
def s9Z : DvS := ⟨[[0, 0, 0, 0, 0, 0], [0, 0, 1]], flWrite s9F 1 (fullS 97) 3, rt5⟩
set_option maxRecDepth 100000 in
theorem s9_f : s9F = List.replicate 128 (fullS 0) := (flNew_nat (n := 128) (by decide)).1
set_option maxRecDepth 100000 in
theorem s9_at : s9F[1]? = some (fullS 0) := by rw [s9_f, List.getElem?_replicate]; rfl
set_option maxRecDepth 100000 in
theorem s9_len : s9F.length = 128 := by rw [s9_f, List.length_replicate]
set_option maxRecDepth 100000 in
theorem s9_wr : flWrite s9F 1 (fullS 97) 3 = s9F.set 1 s9S := flWrite_nat (fs := s9F) (j := 1) s9_at (fullS_size 97) 3
set_option maxRecDepth 100000 in
theorem s9_wat : (flWrite s9F 1 (fullS 97) 3)[1]? = some s9S := by rw [s9_wr, List.getElem?_set, if_pos rfl, if_pos (by rw [s9_len]; decide)]
theorem s9_size : s9S.size = 256 := flW_size (fullS_size 97) (fullS_size 0) 3
theorem s9_tl : tl s9S = List.replicate 3 97 ++ List.replicate 253 0 := by
  have h := tl_cut (b := fullS 97) (c := 3) (by omega) (fullS 0)
  refine h.trans ?_
  rw [tl_full, tl_full]
  decide +kernel
set_option maxRecDepth 100000 in
theorem s9_sm (s : DvS) (h : s = s9H ∨ s = s9X ∨ s = s9Z) : dvSm s := by
  rcases h with rfl | rfl | rfl
  · exact ⟨by decide, by decide, by show s9F.length ≤ _; rw [s9_len]; decide⟩
  · exact ⟨by decide, by decide, by show (flWrite s9F 1 (fullS 97) 3).length ≤ _; rw [flWrite_length, s9_len]; decide⟩
  · exact ⟨by decide, by decide, by show (flWrite s9F 1 (fullS 97) 3).length ≤ _; rw [flWrite_length, s9_len]; decide⟩
set_option maxRecDepth 100000 in
theorem s9_new (W : World) (A : Option Addr) (c : Nat) (hr : Reads W W.heap.size 1 A 2 (ivz [2, 1])) : Calls Try.prog 12 #[.agg (bvs rt5).toArray, .slice A 2 c] W (GivesE (fun _ => False) s9H 0 W) := by
  have h0 := dnew_any9 rt5 rt5_len A 2 c [2, 1] W hr (by decide)
  rw [show fuNewE [2, 1] = 0 from rfl, show dvNew rt5 [2, 1] = s9H from rfl] at h0
  exact h0
theorem bad_no4 (c : Int) (s : ByteArray) : dvBad ⟨4, 0, c, s⟩ = false := by rw [dvBad_write rfl]; simp
section
variable (W : World) (h : Hw) (hk : HwOK W h)
include hk
set_option maxRecDepth 100000 in
theorem s9_do (s s' : DvS) (a : DvA) (f : DvF) (r : DvR) (x : Int) (hs : h.s = s) (hm : dvSm s) (h1 : dvSt s a f = s') (h2 : dvRs s a f = r) (h3 : dvErr s a = x) : Calls Try.prog 10 #[h.v, a.v, f.v] W (GivesD (fun _ => False) s' r x W) := by
  have h0 := do_any9 h a f W hk (hs ▸ hm)
  rw [hs, h1, h2, h3] at h0
  exact h0
set_option maxRecDepth 100000 in
theorem s9_write (hs : h.s = s9H) : Calls Try.prog 10 #[h.v, (⟨4, 0, 1, fullS 97⟩ : DvA).v, (⟨true, 3, false⟩ : DvF).v] W (GivesD (fun _ => False) s9X noR 0 W) := by
  refine s9_do W h hk s9H s9X _ _ noR 0 hs (s9_sm _ (.inl rfl)) ?_ (dvRs_cut rfl) ?_
  · rw [dvSt_write (bad_no4 _ _) rfl]; rfl
  · rw [dvErr_write (bad_no4 _ _) rfl]
    exact flWErr_yes (flIn_nat (fs := s9F) (j := 1) (by rw [s9_len]; decide)) (fullS_size 97)
set_option maxRecDepth 100000 in
theorem s9_read (hs : h.s = s9X) : Calls Try.prog 10 #[h.v, (⟨3, 0, 1, noB⟩ : DvA).v, noF.v] W (GivesD (fun _ => False) s9X ⟨0, s9S⟩ 0 W) := by
  have hb : dvBad ⟨3, 0, 1, noB⟩ = false := by rw [dvBad_read rfl]; simp
  refine s9_do W h hk s9X s9X _ _ ⟨0, s9S⟩ 0 hs (s9_sm _ (.inr (.inl rfl))) (dvSt_keep (.inr rfl)) ?_ ?_
  · rw [dvRs_read hb rfl rfl]
    show (⟨0, flRead (flWrite s9F 1 (fullS 97) 3) 1⟩ : DvR) = _
    exact congrArg (DvR.mk 0) (flRead_nat (j := 1) s9_wat)
  · rw [dvErr_read hb rfl]
    exact flErr_nat (j := 1) (List.getElem?_eq_some_iff.1 s9_wat).1
set_option maxRecDepth 100000 in
theorem s9_pulse (hs : h.s = s9X) : Calls Try.prog 10 #[h.v, (⟨2, 1, 2, noB⟩ : DvA).v, (⟨true, 0, false⟩ : DvF).v] W (GivesD (fun _ => False) s9Z noR 0 W) := by
  have hb : dvBad ⟨2, 1, 2, noB⟩ = false := by rw [dvBad_fuse (.inr rfl)]; simp
  refine s9_do W h hk s9X s9Z _ _ noR 0 hs (s9_sm _ (.inr (.inl rfl))) ?_ (dvRs_cut rfl) ?_
  · rw [dvSt_pulse hb rfl]
    show DvS.mk _ _ _ = DvS.mk _ _ _
    congr 1
  · rw [dvErr_fuse hb (.inr rfl)]; rfl
set_option maxRecDepth 100000 in
theorem s9_one (hs : h.s = s9Z) (nz : Bool) : Calls Try.prog 10 #[h.v, (⟨1, 1, 2, noB⟩ : DvA).v, (⟨false, 0, nz⟩ : DvF).v] W (GivesD (fun _ => False) s9Z ⟨if nz then 1 else 0, noB⟩ 0 W) := by
  have hb : dvBad ⟨1, 1, 2, noB⟩ = false := by rw [dvBad_fuse (.inl rfl)]; simp
  refine s9_do W h hk s9Z s9Z _ _ _ 0 hs (s9_sm _ (.inr (.inr rfl))) (dvSt_keep (.inl rfl)) ?_ ?_
  · rw [dvRs_fuse hb rfl rfl]; cases nz <;> rfl
  · rw [dvErr_fuse hb (.inl rfl)]; rfl
theorem s9_no (hs : h.s = s9H) : Calls Try.prog 10 #[h.v, (⟨5, 0, 0, noB⟩ : DvA).v, noF.v] W (GivesD (fun _ => False) s9H noR 1 W) := by
  have hb : dvBad ⟨5, 0, 0, noB⟩ = true := dvBad_far (by decide) (by decide) (by decide) (by decide)
  exact s9_do W h hk s9H s9H _ _ noR 1 hs (s9_sm _ (.inl rfl)) (dvSt_bad hb) (dvRs_bad hb) (dvErr_bad hb)
set_option maxRecDepth 100000 in
theorem s9_same (k : Hw) (kk : HwOK W k) (hs : h.s = s9X) (ks : k.s = s9X) : Calls Try.prog 15 #[h.v, k.v] W (TellsB true W) := by
  have h0 := dsame_any9 h k W hk kk (hs ▸ s9_sm _ (.inr (.inl rfl)))
  rw [hs, ks, dvSame_refl] at h0
  exact h0
set_option maxRecDepth 100000 in
theorem s9_diff (k : Hw) (kk : HwOK W k) (hs : h.s = s9H) (ks : k.s = s9X) : Calls Try.prog 15 #[h.v, k.v] W (TellsB false W) := by
  have h0 := dsame_any9 h k W hk kk (hs ▸ s9_sm _ (.inl rfl))
  rw [hs, ks] at h0
  have hn : dvSame s9H s9X = false := by
    cases hd : dvSame s9H s9X with
    | false => rfl
    | true =>
      have e := congrArg DvS.fs (dvSame_eq.1 hd)
      have e1 : s9F[1]? = (flWrite s9F 1 (fullS 97) 3)[1]? := congrArg (·[1]?) e
      rw [s9_at, s9_wat] at e1
      have e2 := congrArg List.head? (congrArg tl (Option.some.inj e1))
      rw [tl_full, s9_tl] at e2
      revert e2
      decide +kernel
  rw [hn] at h0
  exact h0
end
theorem s9_full (W : World) : Calls Try.prog 20 #[.int .u8 97] W (TellsS (fullS 97) W) := full_any 97 W
theorem s9_bytes : (s9S.extract 0 4) = ⟨#[97, 97, 97, 0]⟩ := by
  refine ba_ext ?_
  rw [tl_extract, s9_tl]
  decide +kernel
set_option maxRecDepth 100000 in
set_option maxHeartbeats 4000000 in
theorem sanity9_any (w : World) : Calls Try.prog 8 #[] w (TellsB true w) := by
  have hz := s9_size
  have hzq : (s9S.extract 0 4).toList = [97, 97, 97, 0] := by rw [s9_bytes, ByteArray.toList_eq]
  go_enter Try.func8, Try.ntmps8
  go_wp2_with fail
  have k1 : Below w.heap.size w (w.alloc (.cells [.int .i64 2, .int .i64 1].toArray 3)) := (Below.refl _ _).alloc (Nat.le_refl _) _
  have B1 : Below w.heap.size w (w.alloc (.cells [.int .i64 2, .int .i64 1].toArray 3)) := k1
  refine (s9_new (w.alloc (.cells [.int .i64 2, .int .i64 1].toArray 3)) (some ⟨w.heap.size, 0, none⟩) 2 ((row_alloc w 3 [.int .i64 2, .int .i64 1]).reads rfl)).mono ?_
  rintro e w2 ⟨hh, rfl, kh, _, sh, h2⟩
  have B2 := B1.trans (h2.mono B1.size)
  have HSh := Lib.hid sh
  have H16h := Lib.hid kh.h16
  clear sh
  go_wp2_with (first
    | (with_reducible refine wpList_alloc_row (o := ⟨some 1, _, _, _, _, _⟩) rfl _ rfl zeroH zero_hw ?_; intro w3 r3 s3 g3)
    | ((with_reducible refine wpList_at ⟨none, .store _ (.tmp 1) _, _, _, _, _⟩ ?_); refine wpList_store_all rfl _ _ _ rfl w2.heap.size rfl _ _ r3 (hh.cs) rfl (hh.cs_one) (hw_zl H16h.out) (hw_size H16h.out) ?_; intro w4 rh_4 g4; have k4 : Below w2.heap.size w2 w4 := below_kept (grown_below g3 (Nat.le_refl _) (by simp)) g4 (Nat.le_of_lt s3) (by rintro q hq; cases hq; exact Nat.le_refl _); have B4 := B2.trans (k4.mono B2.size); have kh_4 := kh.on k4; clear r3 g3 g4; have s4 := rh_4.lt))
  try simp only [Act.put, List.setIfInBounds_toArray, List.set_cons_zero, List.set_cons_succ]
  go_cut [3, 4, 5] (fun s1 s2 s3 wc => ∃ ga gr h2, s1 = .pointer (some ⟨ga, 0, none⟩) ∧ s2 = .pointer (some ⟨gr, 0, none⟩) ∧ s3 = .int .i64 0 ∧ Row wc ga 31 h2.cs ∧ Row wc gr 40 noR.cs ∧ HwOK wc h2 ∧ h2.s = s9X ∧ w4.heap.size ≤ ga ∧ w4.heap.size ≤ gr ∧ Below w4.heap.size w4 wc)
  case first =>
    have b0 : Below w4.heap.size w4 w4.drew := (Below.refl _ _).drew
    have z0 : w4.drew.heap.size = w4.heap.size := rfl
    have rsd := rh_4.drew
    have lrs := rsd.lt
    have okd : HwOK w4.drew hh := kh_4
    refine wp_region_plan (fun w' => Row w' (w2.heap.size) 31 hh.cs) (.take 0 <| .take 3 <| .three 1 (.take 2 <| .three 4 (.take 5 <| .take 6 <| .take 7 <| .take 8 <| .two 9 (.one 10 <| .one 11 <| .one 12 <| .take 13 <| .done) 10 (.one 9 <| .one 11 <| .one 12 <| .take 13 <| .done)) 9 (.two 4 (.take 5 <| .take 6 <| .take 7 <| .take 8 <| .one 10 <| .one 11 <| .one 12 <| .take 13 <| .done) 10 (.one 4 <| .take 5 <| .take 6 <| .take 7 <| .take 8 <| .one 11 <| .one 12 <| .take 13 <| .done)) 10 (.two 4 (.take 5 <| .take 6 <| .take 7 <| .take 8 <| .one 9 <| .one 11 <| .one 12 <| .take 13 <| .done) 9 (.one 4 <| .take 5 <| .take 6 <| .take 7 <| .take 8 <| .one 11 <| .one 12 <| .take 13 <| .done))) 9 (.two 1 (.take 2 <| .two 4 (.take 5 <| .take 6 <| .take 7 <| .take 8 <| .one 10 <| .one 11 <| .one 12 <| .take 13 <| .done) 10 (.one 4 <| .take 5 <| .take 6 <| .take 7 <| .take 8 <| .one 11 <| .one 12 <| .take 13 <| .done)) 10 (.one 1 <| .take 2 <| .one 4 <| .take 5 <| .take 6 <| .take 7 <| .take 8 <| .one 11 <| .one 12 <| .take 13 <| .done)) 10 (.two 1 (.take 2 <| .two 4 (.take 5 <| .take 6 <| .take 7 <| .take 8 <| .one 9 <| .one 11 <| .one 12 <| .take 13 <| .done) 9 (.one 4 <| .take 5 <| .take 6 <| .take 7 <| .take 8 <| .one 11 <| .one 12 <| .take 13 <| .done)) 9 (.one 1 <| .take 2 <| .one 4 <| .take 5 <| .take 6 <| .take 7 <| .take 8 <| .one 11 <| .one 12 <| .take 13 <| .done))) (by kernel_rfl) (by kernel_rfl) (by kernel_rfl) (fun _ _ _ _ _ h => h) rsd ?_
    repeat (refine plan_take _ rfl ?_; (first | ((with_reducible refine wpQuiet_at ⟨some 28, _, _, _, _, _⟩ ?_); refine wpQuiet_valueG rfl _ (by intro _ hS; exact exec_loadH _ _ rfl (w2.heap.size) rfl hh H16h.out hS) (wpQuiet_nil ?_); simp only [Act.put, List.setIfInBounds_toArray, List.set_cons_zero, List.set_cons_succ]) | (go_big_quiet_step ((intros; rfl)); refine wpQuiet_nil ?_)))
    refine plan_three ?_ ?_ ?_
    · refine step_at _ rfl fun K hK => ?_
      go_simp
      refine (s9_full _).mono ?_
      rintro e wu1 ⟨rfl, hu1⟩
      have rsu1 := rsd.on hu1
      have oku1 := okd.on hu1
      have bu1 := b0.trans (hu1.mono b0.size)
      have zu1 := hu1.size
      refine hK _ _ rsu1 ?_
      clear hK K
      repeat (refine plan_take _ rfl ?_; (first | ((with_reducible refine wpQuiet_at ⟨some 28, _, _, _, _, _⟩ ?_); refine wpQuiet_valueG rfl _ (by intro _ hS; exact exec_loadH _ _ rfl (w2.heap.size) rfl hh H16h.out hS) (wpQuiet_nil ?_); simp only [Act.put, List.setIfInBounds_toArray, List.set_cons_zero, List.set_cons_succ]) | (go_big_quiet_step ((intros; rfl)); refine wpQuiet_nil ?_)))
      refine plan_three ?_ ?_ ?_
      · refine step_at _ rfl fun K hK => ?_
        go_simp
        refine (s9_write _ hh oku1 HSh.out).mono ?_
        rintro e wu2 ⟨hu2, rfl, hku2, hiu2, hsu2, hbu2⟩
        have inu2 := hiu2.and hku2.in_
        have rsu2 := rsu1.on hbu2
        have oku2 := oku1.on hbu2
        have bu2 := bu1.trans (hbu2.mono bu1.size)
        have zu2 := hbu2.size
        refine hK _ _ rsu2 ?_
        clear hK K
        repeat (refine plan_take _ rfl ?_; (first | ((with_reducible refine wpQuiet_at ⟨some 28, _, _, _, _, _⟩ ?_); refine wpQuiet_valueG rfl _ (by intro _ hS; exact exec_loadH _ _ rfl (w2.heap.size) rfl hh H16h.out hS) (wpQuiet_nil ?_); simp only [Act.put, List.setIfInBounds_toArray, List.set_cons_zero, List.set_cons_succ]) | (go_big_quiet_step ((intros; rfl)); refine wpQuiet_nil ?_)))
        refine plan_two ?_ ?_
        · refine step_at _ rfl fun K hK => ?_
          refine step_alloc rfl _ rfl zeroH zero_hw ?_
          intro wu3 z12u3 su3 gu3
          have hu3 := grown_below gu3 (Nat.le_refl _) (by simp)
          have rsu3 := rsu2.on hu3
          have oku3 := oku2.on hu3
          have hku3 := hku2.on hu3
          have bu3 := bu2.trans (hu3.mono bu2.size)
          have zu3 := hu3.size
          refine hK _ _ rsu3 ?_
          clear hK K
          simp only [Act.put, List.setIfInBounds_toArray, List.set_cons_zero, List.set_cons_succ]
          refine plan_one _ rfl fun K hK => ?_
          refine step_alloc rfl _ rfl zeroR zero_rs ?_
          intro wu4 z13u4 su4 gu4
          have hu4 := grown_below gu4 (Nat.le_refl _) (by simp)
          have rsu4 := rsu3.on hu4
          have oku4 := oku3.on hu4
          have hku4 := hku3.on hu4
          have z12u4 := z12u3.on hu4
          have bu4 := bu3.trans (hu4.mono bu3.size)
          have zu4 := hu4.size
          refine hK _ _ rsu4 ?_
          clear hK K
          simp only [Act.put, List.setIfInBounds_toArray, List.set_cons_zero, List.set_cons_succ]
          refine plan_one _ rfl fun K hK => ?_
          refine step_store_all rfl _ _ _ rfl (wu2.heap.size) rfl _ _ z12u4 (hu2.cs) rfl (Hw.cs_one _) (hw_zl hku4.h16) (hw_size hku4.h16) ?_
          intro wu5 ru5 gu5
          have rsu5 := rsu4.kept gu5 (by simp; omega)
          have hku5 := hku4.apart inu2 gu5 (by rintro ⟨h1 | h1, h2⟩; exact h1; omega)
          have z13u5 := z13u4.kept gu5 (by simp; omega)
          have bu5 := below_kept bu4 gu5 bu4.size (by rintro q hq; cases hq; omega)
          have zu5 := gu5.size
          refine hK _ _ rsu5 ?_
          clear hK K
          simp only [Act.put]
          refine plan_one _ rfl fun K hK => ?_
          refine step_store_all rfl _ _ _ rfl (wu3.heap.size) rfl _ _ z13u5 (noR.cs) rfl (DvR.cs_one _) rfl (by kernel_rfl) ?_
          intro wu6 ru6 gu6
          have rsu6 := rsu5.kept gu6 (by simp; omega)
          have hku6 := hku5.apart inu2 gu6 (by rintro ⟨h1 | h1, h2⟩; exact h1; omega)
          have ra1u6 := ru5.kept gu6 (by simp; omega)
          have bu6 := below_kept bu5 gu6 bu5.size (by rintro q hq; cases hq; omega)
          have zu6 := gu6.size
          refine hK _ _ rsu6 ?_
          clear hK K
          simp only [Act.put]
          repeat (refine plan_take _ rfl ?_; (first | ((with_reducible refine wpQuiet_at ⟨some 28, _, _, _, _, _⟩ ?_); refine wpQuiet_valueG rfl _ (by intro _ hS; exact exec_loadH _ _ rfl (w2.heap.size) rfl hh H16h.out hS) (wpQuiet_nil ?_); simp only [Act.put, List.setIfInBounds_toArray, List.set_cons_zero, List.set_cons_succ]) | (go_big_quiet_step ((intros; rfl)); refine wpQuiet_nil ?_)))
          refine plan_done ?_
          go_wp2_with fail
          go_meet
          exact ⟨_, _, hu2, rfl, rfl, rfl, ra1u6, ru6, hku6, hsu2, by omega, by omega, bu6⟩
        · refine step_at _ rfl fun K hK => ?_
          refine step_alloc rfl _ rfl zeroR zero_rs ?_
          intro wu7 z13u7 su7 gu7
          have hu7 := grown_below gu7 (Nat.le_refl _) (by simp)
          have rsu7 := rsu2.on hu7
          have oku7 := oku2.on hu7
          have hku7 := hku2.on hu7
          have bu7 := bu2.trans (hu7.mono bu2.size)
          have zu7 := hu7.size
          refine hK _ _ rsu7 ?_
          clear hK K
          simp only [Act.put, List.setIfInBounds_toArray, List.set_cons_zero, List.set_cons_succ]
          refine plan_one _ rfl fun K hK => ?_
          refine step_alloc rfl _ rfl zeroH zero_hw ?_
          intro wu8 z12u8 su8 gu8
          have hu8 := grown_below gu8 (Nat.le_refl _) (by simp)
          have rsu8 := rsu7.on hu8
          have oku8 := oku7.on hu8
          have hku8 := hku7.on hu8
          have z13u8 := z13u7.on hu8
          have bu8 := bu7.trans (hu8.mono bu7.size)
          have zu8 := hu8.size
          refine hK _ _ rsu8 ?_
          clear hK K
          simp only [Act.put, List.setIfInBounds_toArray, List.set_cons_zero, List.set_cons_succ]
          refine plan_one _ rfl fun K hK => ?_
          refine step_store_all rfl _ _ _ rfl (wu7.heap.size) rfl _ _ z12u8 (hu2.cs) rfl (Hw.cs_one _) (hw_zl hku8.h16) (hw_size hku8.h16) ?_
          intro wu9 ru9 gu9
          have rsu9 := rsu8.kept gu9 (by simp; omega)
          have hku9 := hku8.apart inu2 gu9 (by rintro ⟨h1 | h1, h2⟩; exact h1; omega)
          have z13u9 := z13u8.kept gu9 (by simp; omega)
          have bu9 := below_kept bu8 gu9 bu8.size (by rintro q hq; cases hq; omega)
          have zu9 := gu9.size
          refine hK _ _ rsu9 ?_
          clear hK K
          simp only [Act.put]
          refine plan_one _ rfl fun K hK => ?_
          refine step_store_all rfl _ _ _ rfl (wu2.heap.size) rfl _ _ z13u9 (noR.cs) rfl (DvR.cs_one _) rfl (by kernel_rfl) ?_
          intro wu10 ru10 gu10
          have rsu10 := rsu9.kept gu10 (by simp; omega)
          have hku10 := hku9.apart inu2 gu10 (by rintro ⟨h1 | h1, h2⟩; exact h1; omega)
          have ra1u10 := ru9.kept gu10 (by simp; omega)
          have bu10 := below_kept bu9 gu10 bu9.size (by rintro q hq; cases hq; omega)
          have zu10 := gu10.size
          refine hK _ _ rsu10 ?_
          clear hK K
          simp only [Act.put]
          repeat (refine plan_take _ rfl ?_; (first | ((with_reducible refine wpQuiet_at ⟨some 28, _, _, _, _, _⟩ ?_); refine wpQuiet_valueG rfl _ (by intro _ hS; exact exec_loadH _ _ rfl (w2.heap.size) rfl hh H16h.out hS) (wpQuiet_nil ?_); simp only [Act.put, List.setIfInBounds_toArray, List.set_cons_zero, List.set_cons_succ]) | (go_big_quiet_step ((intros; rfl)); refine wpQuiet_nil ?_)))
          refine plan_done ?_
          go_wp2_with fail
          go_meet
          exact ⟨_, _, hu2, rfl, rfl, rfl, ra1u10, ru10, hku10, hsu2, by omega, by omega, bu10⟩
      · refine step_at _ rfl fun K hK => ?_
        refine step_alloc rfl _ rfl zeroH zero_hw ?_
        intro wu11 z12u11 su11 gu11
        have hu11 := grown_below gu11 (Nat.le_refl _) (by simp)
        have rsu11 := rsu1.on hu11
        have oku11 := oku1.on hu11
        have bu11 := bu1.trans (hu11.mono bu1.size)
        have zu11 := hu11.size
        refine hK _ _ rsu11 ?_
        clear hK K
        simp only [Act.put, List.setIfInBounds_toArray, List.set_cons_zero, List.set_cons_succ]
        refine plan_two ?_ ?_
        · refine step_at _ rfl fun K hK => ?_
          go_simp
          refine (s9_write _ hh oku11 HSh.out).mono ?_
          rintro e wu12 ⟨hu12, rfl, hku12, hiu12, hsu12, hbu12⟩
          have inu12 := hiu12.and hku12.in_
          have rsu12 := rsu11.on hbu12
          have oku12 := oku11.on hbu12
          have z12u12 := z12u11.on hbu12
          have bu12 := bu11.trans (hbu12.mono bu11.size)
          have zu12 := hbu12.size
          refine hK _ _ rsu12 ?_
          clear hK K
          repeat (refine plan_take _ rfl ?_; (first | ((with_reducible refine wpQuiet_at ⟨some 28, _, _, _, _, _⟩ ?_); refine wpQuiet_valueG rfl _ (by intro _ hS; exact exec_loadH _ _ rfl (w2.heap.size) rfl hh H16h.out hS) (wpQuiet_nil ?_); simp only [Act.put, List.setIfInBounds_toArray, List.set_cons_zero, List.set_cons_succ]) | (go_big_quiet_step ((intros; rfl)); refine wpQuiet_nil ?_)))
          refine plan_one _ rfl fun K hK => ?_
          refine step_alloc rfl _ rfl zeroR zero_rs ?_
          intro wu13 z13u13 su13 gu13
          have hu13 := grown_below gu13 (Nat.le_refl _) (by simp)
          have rsu13 := rsu12.on hu13
          have oku13 := oku12.on hu13
          have z12u13 := z12u12.on hu13
          have hku13 := hku12.on hu13
          have bu13 := bu12.trans (hu13.mono bu12.size)
          have zu13 := hu13.size
          refine hK _ _ rsu13 ?_
          clear hK K
          simp only [Act.put, List.setIfInBounds_toArray, List.set_cons_zero, List.set_cons_succ]
          refine plan_one _ rfl fun K hK => ?_
          refine step_store_all rfl _ _ _ rfl (wu1.heap.size) rfl _ _ z12u13 (hu12.cs) rfl (Hw.cs_one _) (hw_zl hku13.h16) (hw_size hku13.h16) ?_
          intro wu14 ru14 gu14
          have rsu14 := rsu13.kept gu14 (by simp; omega)
          have hku14 := hku13.apart inu12 gu14 (by rintro ⟨h1 | h1, h2⟩; exact h1; omega)
          have z13u14 := z13u13.kept gu14 (by simp; omega)
          have bu14 := below_kept bu13 gu14 bu13.size (by rintro q hq; cases hq; omega)
          have zu14 := gu14.size
          refine hK _ _ rsu14 ?_
          clear hK K
          simp only [Act.put]
          refine plan_one _ rfl fun K hK => ?_
          refine step_store_all rfl _ _ _ rfl (wu12.heap.size) rfl _ _ z13u14 (noR.cs) rfl (DvR.cs_one _) rfl (by kernel_rfl) ?_
          intro wu15 ru15 gu15
          have rsu15 := rsu14.kept gu15 (by simp; omega)
          have hku15 := hku14.apart inu12 gu15 (by rintro ⟨h1 | h1, h2⟩; exact h1; omega)
          have ra1u15 := ru14.kept gu15 (by simp; omega)
          have bu15 := below_kept bu14 gu15 bu14.size (by rintro q hq; cases hq; omega)
          have zu15 := gu15.size
          refine hK _ _ rsu15 ?_
          clear hK K
          simp only [Act.put]
          repeat (refine plan_take _ rfl ?_; (first | ((with_reducible refine wpQuiet_at ⟨some 28, _, _, _, _, _⟩ ?_); refine wpQuiet_valueG rfl _ (by intro _ hS; exact exec_loadH _ _ rfl (w2.heap.size) rfl hh H16h.out hS) (wpQuiet_nil ?_); simp only [Act.put, List.setIfInBounds_toArray, List.set_cons_zero, List.set_cons_succ]) | (go_big_quiet_step ((intros; rfl)); refine wpQuiet_nil ?_)))
          refine plan_done ?_
          go_wp2_with fail
          go_meet
          exact ⟨_, _, hu12, rfl, rfl, rfl, ra1u15, ru15, hku15, hsu12, by omega, by omega, bu15⟩
        · refine step_at _ rfl fun K hK => ?_
          refine step_alloc rfl _ rfl zeroR zero_rs ?_
          intro wu16 z13u16 su16 gu16
          have hu16 := grown_below gu16 (Nat.le_refl _) (by simp)
          have rsu16 := rsu11.on hu16
          have oku16 := oku11.on hu16
          have z12u16 := z12u11.on hu16
          have bu16 := bu11.trans (hu16.mono bu11.size)
          have zu16 := hu16.size
          refine hK _ _ rsu16 ?_
          clear hK K
          simp only [Act.put, List.setIfInBounds_toArray, List.set_cons_zero, List.set_cons_succ]
          refine plan_one _ rfl fun K hK => ?_
          go_simp
          refine (s9_write _ hh oku16 HSh.out).mono ?_
          rintro e wu17 ⟨hu17, rfl, hku17, hiu17, hsu17, hbu17⟩
          have inu17 := hiu17.and hku17.in_
          have rsu17 := rsu16.on hbu17
          have oku17 := oku16.on hbu17
          have z12u17 := z12u16.on hbu17
          have z13u17 := z13u16.on hbu17
          have bu17 := bu16.trans (hbu17.mono bu16.size)
          have zu17 := hbu17.size
          refine hK _ _ rsu17 ?_
          clear hK K
          repeat (refine plan_take _ rfl ?_; (first | ((with_reducible refine wpQuiet_at ⟨some 28, _, _, _, _, _⟩ ?_); refine wpQuiet_valueG rfl _ (by intro _ hS; exact exec_loadH _ _ rfl (w2.heap.size) rfl hh H16h.out hS) (wpQuiet_nil ?_); simp only [Act.put, List.setIfInBounds_toArray, List.set_cons_zero, List.set_cons_succ]) | (go_big_quiet_step ((intros; rfl)); refine wpQuiet_nil ?_)))
          refine plan_one _ rfl fun K hK => ?_
          refine step_store_all rfl _ _ _ rfl (wu1.heap.size) rfl _ _ z12u17 (hu17.cs) rfl (Hw.cs_one _) (hw_zl hku17.h16) (hw_size hku17.h16) ?_
          intro wu18 ru18 gu18
          have rsu18 := rsu17.kept gu18 (by simp; omega)
          have z13u18 := z13u17.kept gu18 (by simp; omega)
          have hku18 := hku17.apart inu17 gu18 (by rintro ⟨h1 | h1, h2⟩; exact h1; omega)
          have bu18 := below_kept bu17 gu18 bu17.size (by rintro q hq; cases hq; omega)
          have zu18 := gu18.size
          refine hK _ _ rsu18 ?_
          clear hK K
          simp only [Act.put]
          refine plan_one _ rfl fun K hK => ?_
          refine step_store_all rfl _ _ _ rfl (wu11.heap.size) rfl _ _ z13u18 (noR.cs) rfl (DvR.cs_one _) rfl (by kernel_rfl) ?_
          intro wu19 ru19 gu19
          have rsu19 := rsu18.kept gu19 (by simp; omega)
          have hku19 := hku18.apart inu17 gu19 (by rintro ⟨h1 | h1, h2⟩; exact h1; omega)
          have ra1u19 := ru18.kept gu19 (by simp; omega)
          have bu19 := below_kept bu18 gu19 bu18.size (by rintro q hq; cases hq; omega)
          have zu19 := gu19.size
          refine hK _ _ rsu19 ?_
          clear hK K
          simp only [Act.put]
          repeat (refine plan_take _ rfl ?_; (first | ((with_reducible refine wpQuiet_at ⟨some 28, _, _, _, _, _⟩ ?_); refine wpQuiet_valueG rfl _ (by intro _ hS; exact exec_loadH _ _ rfl (w2.heap.size) rfl hh H16h.out hS) (wpQuiet_nil ?_); simp only [Act.put, List.setIfInBounds_toArray, List.set_cons_zero, List.set_cons_succ]) | (go_big_quiet_step ((intros; rfl)); refine wpQuiet_nil ?_)))
          refine plan_done ?_
          go_wp2_with fail
          go_meet
          exact ⟨_, _, hu17, rfl, rfl, rfl, ra1u19, ru19, hku19, hsu17, by omega, by omega, bu19⟩
      · refine step_at _ rfl fun K hK => ?_
        refine step_alloc rfl _ rfl zeroR zero_rs ?_
        intro wu20 z13u20 su20 gu20
        have hu20 := grown_below gu20 (Nat.le_refl _) (by simp)
        have rsu20 := rsu1.on hu20
        have oku20 := oku1.on hu20
        have bu20 := bu1.trans (hu20.mono bu1.size)
        have zu20 := hu20.size
        refine hK _ _ rsu20 ?_
        clear hK K
        simp only [Act.put, List.setIfInBounds_toArray, List.set_cons_zero, List.set_cons_succ]
        refine plan_two ?_ ?_
        · refine step_at _ rfl fun K hK => ?_
          go_simp
          refine (s9_write _ hh oku20 HSh.out).mono ?_
          rintro e wu21 ⟨hu21, rfl, hku21, hiu21, hsu21, hbu21⟩
          have inu21 := hiu21.and hku21.in_
          have rsu21 := rsu20.on hbu21
          have oku21 := oku20.on hbu21
          have z13u21 := z13u20.on hbu21
          have bu21 := bu20.trans (hbu21.mono bu20.size)
          have zu21 := hbu21.size
          refine hK _ _ rsu21 ?_
          clear hK K
          repeat (refine plan_take _ rfl ?_; (first | ((with_reducible refine wpQuiet_at ⟨some 28, _, _, _, _, _⟩ ?_); refine wpQuiet_valueG rfl _ (by intro _ hS; exact exec_loadH _ _ rfl (w2.heap.size) rfl hh H16h.out hS) (wpQuiet_nil ?_); simp only [Act.put, List.setIfInBounds_toArray, List.set_cons_zero, List.set_cons_succ]) | (go_big_quiet_step ((intros; rfl)); refine wpQuiet_nil ?_)))
          refine plan_one _ rfl fun K hK => ?_
          refine step_alloc rfl _ rfl zeroH zero_hw ?_
          intro wu22 z12u22 su22 gu22
          have hu22 := grown_below gu22 (Nat.le_refl _) (by simp)
          have rsu22 := rsu21.on hu22
          have oku22 := oku21.on hu22
          have z13u22 := z13u21.on hu22
          have hku22 := hku21.on hu22
          have bu22 := bu21.trans (hu22.mono bu21.size)
          have zu22 := hu22.size
          refine hK _ _ rsu22 ?_
          clear hK K
          simp only [Act.put, List.setIfInBounds_toArray, List.set_cons_zero, List.set_cons_succ]
          refine plan_one _ rfl fun K hK => ?_
          refine step_store_all rfl _ _ _ rfl (wu21.heap.size) rfl _ _ z12u22 (hu21.cs) rfl (Hw.cs_one _) (hw_zl hku22.h16) (hw_size hku22.h16) ?_
          intro wu23 ru23 gu23
          have rsu23 := rsu22.kept gu23 (by simp; omega)
          have z13u23 := z13u22.kept gu23 (by simp; omega)
          have hku23 := hku22.apart inu21 gu23 (by rintro ⟨h1 | h1, h2⟩; exact h1; omega)
          have bu23 := below_kept bu22 gu23 bu22.size (by rintro q hq; cases hq; omega)
          have zu23 := gu23.size
          refine hK _ _ rsu23 ?_
          clear hK K
          simp only [Act.put]
          refine plan_one _ rfl fun K hK => ?_
          refine step_store_all rfl _ _ _ rfl (wu1.heap.size) rfl _ _ z13u23 (noR.cs) rfl (DvR.cs_one _) rfl (by kernel_rfl) ?_
          intro wu24 ru24 gu24
          have rsu24 := rsu23.kept gu24 (by simp; omega)
          have hku24 := hku23.apart inu21 gu24 (by rintro ⟨h1 | h1, h2⟩; exact h1; omega)
          have ra1u24 := ru23.kept gu24 (by simp; omega)
          have bu24 := below_kept bu23 gu24 bu23.size (by rintro q hq; cases hq; omega)
          have zu24 := gu24.size
          refine hK _ _ rsu24 ?_
          clear hK K
          simp only [Act.put]
          repeat (refine plan_take _ rfl ?_; (first | ((with_reducible refine wpQuiet_at ⟨some 28, _, _, _, _, _⟩ ?_); refine wpQuiet_valueG rfl _ (by intro _ hS; exact exec_loadH _ _ rfl (w2.heap.size) rfl hh H16h.out hS) (wpQuiet_nil ?_); simp only [Act.put, List.setIfInBounds_toArray, List.set_cons_zero, List.set_cons_succ]) | (go_big_quiet_step ((intros; rfl)); refine wpQuiet_nil ?_)))
          refine plan_done ?_
          go_wp2_with fail
          go_meet
          exact ⟨_, _, hu21, rfl, rfl, rfl, ra1u24, ru24, hku24, hsu21, by omega, by omega, bu24⟩
        · refine step_at _ rfl fun K hK => ?_
          refine step_alloc rfl _ rfl zeroH zero_hw ?_
          intro wu25 z12u25 su25 gu25
          have hu25 := grown_below gu25 (Nat.le_refl _) (by simp)
          have rsu25 := rsu20.on hu25
          have oku25 := oku20.on hu25
          have z13u25 := z13u20.on hu25
          have bu25 := bu20.trans (hu25.mono bu20.size)
          have zu25 := hu25.size
          refine hK _ _ rsu25 ?_
          clear hK K
          simp only [Act.put, List.setIfInBounds_toArray, List.set_cons_zero, List.set_cons_succ]
          refine plan_one _ rfl fun K hK => ?_
          go_simp
          refine (s9_write _ hh oku25 HSh.out).mono ?_
          rintro e wu26 ⟨hu26, rfl, hku26, hiu26, hsu26, hbu26⟩
          have inu26 := hiu26.and hku26.in_
          have rsu26 := rsu25.on hbu26
          have oku26 := oku25.on hbu26
          have z13u26 := z13u25.on hbu26
          have z12u26 := z12u25.on hbu26
          have bu26 := bu25.trans (hbu26.mono bu25.size)
          have zu26 := hbu26.size
          refine hK _ _ rsu26 ?_
          clear hK K
          repeat (refine plan_take _ rfl ?_; (first | ((with_reducible refine wpQuiet_at ⟨some 28, _, _, _, _, _⟩ ?_); refine wpQuiet_valueG rfl _ (by intro _ hS; exact exec_loadH _ _ rfl (w2.heap.size) rfl hh H16h.out hS) (wpQuiet_nil ?_); simp only [Act.put, List.setIfInBounds_toArray, List.set_cons_zero, List.set_cons_succ]) | (go_big_quiet_step ((intros; rfl)); refine wpQuiet_nil ?_)))
          refine plan_one _ rfl fun K hK => ?_
          refine step_store_all rfl _ _ _ rfl (wu20.heap.size) rfl _ _ z12u26 (hu26.cs) rfl (Hw.cs_one _) (hw_zl hku26.h16) (hw_size hku26.h16) ?_
          intro wu27 ru27 gu27
          have rsu27 := rsu26.kept gu27 (by simp; omega)
          have z13u27 := z13u26.kept gu27 (by simp; omega)
          have hku27 := hku26.apart inu26 gu27 (by rintro ⟨h1 | h1, h2⟩; exact h1; omega)
          have bu27 := below_kept bu26 gu27 bu26.size (by rintro q hq; cases hq; omega)
          have zu27 := gu27.size
          refine hK _ _ rsu27 ?_
          clear hK K
          simp only [Act.put]
          refine plan_one _ rfl fun K hK => ?_
          refine step_store_all rfl _ _ _ rfl (wu1.heap.size) rfl _ _ z13u27 (noR.cs) rfl (DvR.cs_one _) rfl (by kernel_rfl) ?_
          intro wu28 ru28 gu28
          have rsu28 := rsu27.kept gu28 (by simp; omega)
          have hku28 := hku27.apart inu26 gu28 (by rintro ⟨h1 | h1, h2⟩; exact h1; omega)
          have ra1u28 := ru27.kept gu28 (by simp; omega)
          have bu28 := below_kept bu27 gu28 bu27.size (by rintro q hq; cases hq; omega)
          have zu28 := gu28.size
          refine hK _ _ rsu28 ?_
          clear hK K
          simp only [Act.put]
          repeat (refine plan_take _ rfl ?_; (first | ((with_reducible refine wpQuiet_at ⟨some 28, _, _, _, _, _⟩ ?_); refine wpQuiet_valueG rfl _ (by intro _ hS; exact exec_loadH _ _ rfl (w2.heap.size) rfl hh H16h.out hS) (wpQuiet_nil ?_); simp only [Act.put, List.setIfInBounds_toArray, List.set_cons_zero, List.set_cons_succ]) | (go_big_quiet_step ((intros; rfl)); refine wpQuiet_nil ?_)))
          refine plan_done ?_
          go_wp2_with fail
          go_meet
          exact ⟨_, _, hu26, rfl, rfl, rfl, ra1u28, ru28, hku28, hsu26, by omega, by omega, bu28⟩
    · refine step_at _ rfl fun K hK => ?_
      refine step_alloc rfl _ rfl zeroH zero_hw ?_
      intro wu29 z12u29 su29 gu29
      have hu29 := grown_below gu29 (Nat.le_refl _) (by simp)
      have rsu29 := rsd.on hu29
      have oku29 := okd.on hu29
      have bu29 := b0.trans (hu29.mono b0.size)
      have zu29 := hu29.size
      refine hK _ _ rsu29 ?_
      clear hK K
      simp only [Act.put, List.setIfInBounds_toArray, List.set_cons_zero, List.set_cons_succ]
      refine plan_two ?_ ?_
      · refine step_at _ rfl fun K hK => ?_
        go_simp
        refine (s9_full _).mono ?_
        rintro e wu30 ⟨rfl, hu30⟩
        have rsu30 := rsu29.on hu30
        have oku30 := oku29.on hu30
        have z12u30 := z12u29.on hu30
        have bu30 := bu29.trans (hu30.mono bu29.size)
        have zu30 := hu30.size
        refine hK _ _ rsu30 ?_
        clear hK K
        repeat (refine plan_take _ rfl ?_; (first | ((with_reducible refine wpQuiet_at ⟨some 28, _, _, _, _, _⟩ ?_); refine wpQuiet_valueG rfl _ (by intro _ hS; exact exec_loadH _ _ rfl (w2.heap.size) rfl hh H16h.out hS) (wpQuiet_nil ?_); simp only [Act.put, List.setIfInBounds_toArray, List.set_cons_zero, List.set_cons_succ]) | (go_big_quiet_step ((intros; rfl)); refine wpQuiet_nil ?_)))
        refine plan_two ?_ ?_
        · refine step_at _ rfl fun K hK => ?_
          go_simp
          refine (s9_write _ hh oku30 HSh.out).mono ?_
          rintro e wu31 ⟨hu31, rfl, hku31, hiu31, hsu31, hbu31⟩
          have inu31 := hiu31.and hku31.in_
          have rsu31 := rsu30.on hbu31
          have oku31 := oku30.on hbu31
          have z12u31 := z12u30.on hbu31
          have bu31 := bu30.trans (hbu31.mono bu30.size)
          have zu31 := hbu31.size
          refine hK _ _ rsu31 ?_
          clear hK K
          repeat (refine plan_take _ rfl ?_; (first | ((with_reducible refine wpQuiet_at ⟨some 28, _, _, _, _, _⟩ ?_); refine wpQuiet_valueG rfl _ (by intro _ hS; exact exec_loadH _ _ rfl (w2.heap.size) rfl hh H16h.out hS) (wpQuiet_nil ?_); simp only [Act.put, List.setIfInBounds_toArray, List.set_cons_zero, List.set_cons_succ]) | (go_big_quiet_step ((intros; rfl)); refine wpQuiet_nil ?_)))
          refine plan_one _ rfl fun K hK => ?_
          refine step_alloc rfl _ rfl zeroR zero_rs ?_
          intro wu32 z13u32 su32 gu32
          have hu32 := grown_below gu32 (Nat.le_refl _) (by simp)
          have rsu32 := rsu31.on hu32
          have oku32 := oku31.on hu32
          have z12u32 := z12u31.on hu32
          have hku32 := hku31.on hu32
          have bu32 := bu31.trans (hu32.mono bu31.size)
          have zu32 := hu32.size
          refine hK _ _ rsu32 ?_
          clear hK K
          simp only [Act.put, List.setIfInBounds_toArray, List.set_cons_zero, List.set_cons_succ]
          refine plan_one _ rfl fun K hK => ?_
          refine step_store_all rfl _ _ _ rfl (w4.drew.heap.size) rfl _ _ z12u32 (hu31.cs) rfl (Hw.cs_one _) (hw_zl hku32.h16) (hw_size hku32.h16) ?_
          intro wu33 ru33 gu33
          have rsu33 := rsu32.kept gu33 (by simp; omega)
          have hku33 := hku32.apart inu31 gu33 (by rintro ⟨h1 | h1, h2⟩; exact h1; omega)
          have z13u33 := z13u32.kept gu33 (by simp; omega)
          have bu33 := below_kept bu32 gu33 bu32.size (by rintro q hq; cases hq; omega)
          have zu33 := gu33.size
          refine hK _ _ rsu33 ?_
          clear hK K
          simp only [Act.put]
          refine plan_one _ rfl fun K hK => ?_
          refine step_store_all rfl _ _ _ rfl (wu31.heap.size) rfl _ _ z13u33 (noR.cs) rfl (DvR.cs_one _) rfl (by kernel_rfl) ?_
          intro wu34 ru34 gu34
          have rsu34 := rsu33.kept gu34 (by simp; omega)
          have hku34 := hku33.apart inu31 gu34 (by rintro ⟨h1 | h1, h2⟩; exact h1; omega)
          have ra1u34 := ru33.kept gu34 (by simp; omega)
          have bu34 := below_kept bu33 gu34 bu33.size (by rintro q hq; cases hq; omega)
          have zu34 := gu34.size
          refine hK _ _ rsu34 ?_
          clear hK K
          simp only [Act.put]
          repeat (refine plan_take _ rfl ?_; (first | ((with_reducible refine wpQuiet_at ⟨some 28, _, _, _, _, _⟩ ?_); refine wpQuiet_valueG rfl _ (by intro _ hS; exact exec_loadH _ _ rfl (w2.heap.size) rfl hh H16h.out hS) (wpQuiet_nil ?_); simp only [Act.put, List.setIfInBounds_toArray, List.set_cons_zero, List.set_cons_succ]) | (go_big_quiet_step ((intros; rfl)); refine wpQuiet_nil ?_)))
          refine plan_done ?_
          go_wp2_with fail
          go_meet
          exact ⟨_, _, hu31, rfl, rfl, rfl, ra1u34, ru34, hku34, hsu31, by omega, by omega, bu34⟩
        · refine step_at _ rfl fun K hK => ?_
          refine step_alloc rfl _ rfl zeroR zero_rs ?_
          intro wu35 z13u35 su35 gu35
          have hu35 := grown_below gu35 (Nat.le_refl _) (by simp)
          have rsu35 := rsu30.on hu35
          have oku35 := oku30.on hu35
          have z12u35 := z12u30.on hu35
          have bu35 := bu30.trans (hu35.mono bu30.size)
          have zu35 := hu35.size
          refine hK _ _ rsu35 ?_
          clear hK K
          simp only [Act.put, List.setIfInBounds_toArray, List.set_cons_zero, List.set_cons_succ]
          refine plan_one _ rfl fun K hK => ?_
          go_simp
          refine (s9_write _ hh oku35 HSh.out).mono ?_
          rintro e wu36 ⟨hu36, rfl, hku36, hiu36, hsu36, hbu36⟩
          have inu36 := hiu36.and hku36.in_
          have rsu36 := rsu35.on hbu36
          have oku36 := oku35.on hbu36
          have z12u36 := z12u35.on hbu36
          have z13u36 := z13u35.on hbu36
          have bu36 := bu35.trans (hbu36.mono bu35.size)
          have zu36 := hbu36.size
          refine hK _ _ rsu36 ?_
          clear hK K
          repeat (refine plan_take _ rfl ?_; (first | ((with_reducible refine wpQuiet_at ⟨some 28, _, _, _, _, _⟩ ?_); refine wpQuiet_valueG rfl _ (by intro _ hS; exact exec_loadH _ _ rfl (w2.heap.size) rfl hh H16h.out hS) (wpQuiet_nil ?_); simp only [Act.put, List.setIfInBounds_toArray, List.set_cons_zero, List.set_cons_succ]) | (go_big_quiet_step ((intros; rfl)); refine wpQuiet_nil ?_)))
          refine plan_one _ rfl fun K hK => ?_
          refine step_store_all rfl _ _ _ rfl (w4.drew.heap.size) rfl _ _ z12u36 (hu36.cs) rfl (Hw.cs_one _) (hw_zl hku36.h16) (hw_size hku36.h16) ?_
          intro wu37 ru37 gu37
          have rsu37 := rsu36.kept gu37 (by simp; omega)
          have z13u37 := z13u36.kept gu37 (by simp; omega)
          have hku37 := hku36.apart inu36 gu37 (by rintro ⟨h1 | h1, h2⟩; exact h1; omega)
          have bu37 := below_kept bu36 gu37 bu36.size (by rintro q hq; cases hq; omega)
          have zu37 := gu37.size
          refine hK _ _ rsu37 ?_
          clear hK K
          simp only [Act.put]
          refine plan_one _ rfl fun K hK => ?_
          refine step_store_all rfl _ _ _ rfl (wu30.heap.size) rfl _ _ z13u37 (noR.cs) rfl (DvR.cs_one _) rfl (by kernel_rfl) ?_
          intro wu38 ru38 gu38
          have rsu38 := rsu37.kept gu38 (by simp; omega)
          have hku38 := hku37.apart inu36 gu38 (by rintro ⟨h1 | h1, h2⟩; exact h1; omega)
          have ra1u38 := ru37.kept gu38 (by simp; omega)
          have bu38 := below_kept bu37 gu38 bu37.size (by rintro q hq; cases hq; omega)
          have zu38 := gu38.size
          refine hK _ _ rsu38 ?_
          clear hK K
          simp only [Act.put]
          repeat (refine plan_take _ rfl ?_; (first | ((with_reducible refine wpQuiet_at ⟨some 28, _, _, _, _, _⟩ ?_); refine wpQuiet_valueG rfl _ (by intro _ hS; exact exec_loadH _ _ rfl (w2.heap.size) rfl hh H16h.out hS) (wpQuiet_nil ?_); simp only [Act.put, List.setIfInBounds_toArray, List.set_cons_zero, List.set_cons_succ]) | (go_big_quiet_step ((intros; rfl)); refine wpQuiet_nil ?_)))
          refine plan_done ?_
          go_wp2_with fail
          go_meet
          exact ⟨_, _, hu36, rfl, rfl, rfl, ra1u38, ru38, hku38, hsu36, by omega, by omega, bu38⟩
      · refine step_at _ rfl fun K hK => ?_
        refine step_alloc rfl _ rfl zeroR zero_rs ?_
        intro wu39 z13u39 su39 gu39
        have hu39 := grown_below gu39 (Nat.le_refl _) (by simp)
        have rsu39 := rsu29.on hu39
        have oku39 := oku29.on hu39
        have z12u39 := z12u29.on hu39
        have bu39 := bu29.trans (hu39.mono bu29.size)
        have zu39 := hu39.size
        refine hK _ _ rsu39 ?_
        clear hK K
        simp only [Act.put, List.setIfInBounds_toArray, List.set_cons_zero, List.set_cons_succ]
        refine plan_one _ rfl fun K hK => ?_
        go_simp
        refine (s9_full _).mono ?_
        rintro e wu40 ⟨rfl, hu40⟩
        have rsu40 := rsu39.on hu40
        have oku40 := oku39.on hu40
        have z12u40 := z12u39.on hu40
        have z13u40 := z13u39.on hu40
        have bu40 := bu39.trans (hu40.mono bu39.size)
        have zu40 := hu40.size
        refine hK _ _ rsu40 ?_
        clear hK K
        repeat (refine plan_take _ rfl ?_; (first | ((with_reducible refine wpQuiet_at ⟨some 28, _, _, _, _, _⟩ ?_); refine wpQuiet_valueG rfl _ (by intro _ hS; exact exec_loadH _ _ rfl (w2.heap.size) rfl hh H16h.out hS) (wpQuiet_nil ?_); simp only [Act.put, List.setIfInBounds_toArray, List.set_cons_zero, List.set_cons_succ]) | (go_big_quiet_step ((intros; rfl)); refine wpQuiet_nil ?_)))
        refine plan_one _ rfl fun K hK => ?_
        go_simp
        refine (s9_write _ hh oku40 HSh.out).mono ?_
        rintro e wu41 ⟨hu41, rfl, hku41, hiu41, hsu41, hbu41⟩
        have inu41 := hiu41.and hku41.in_
        have rsu41 := rsu40.on hbu41
        have oku41 := oku40.on hbu41
        have z12u41 := z12u40.on hbu41
        have z13u41 := z13u40.on hbu41
        have bu41 := bu40.trans (hbu41.mono bu40.size)
        have zu41 := hbu41.size
        refine hK _ _ rsu41 ?_
        clear hK K
        repeat (refine plan_take _ rfl ?_; (first | ((with_reducible refine wpQuiet_at ⟨some 28, _, _, _, _, _⟩ ?_); refine wpQuiet_valueG rfl _ (by intro _ hS; exact exec_loadH _ _ rfl (w2.heap.size) rfl hh H16h.out hS) (wpQuiet_nil ?_); simp only [Act.put, List.setIfInBounds_toArray, List.set_cons_zero, List.set_cons_succ]) | (go_big_quiet_step ((intros; rfl)); refine wpQuiet_nil ?_)))
        refine plan_one _ rfl fun K hK => ?_
        refine step_store_all rfl _ _ _ rfl (w4.drew.heap.size) rfl _ _ z12u41 (hu41.cs) rfl (Hw.cs_one _) (hw_zl hku41.h16) (hw_size hku41.h16) ?_
        intro wu42 ru42 gu42
        have rsu42 := rsu41.kept gu42 (by simp; omega)
        have z13u42 := z13u41.kept gu42 (by simp; omega)
        have hku42 := hku41.apart inu41 gu42 (by rintro ⟨h1 | h1, h2⟩; exact h1; omega)
        have bu42 := below_kept bu41 gu42 bu41.size (by rintro q hq; cases hq; omega)
        have zu42 := gu42.size
        refine hK _ _ rsu42 ?_
        clear hK K
        simp only [Act.put]
        refine plan_one _ rfl fun K hK => ?_
        refine step_store_all rfl _ _ _ rfl (wu29.heap.size) rfl _ _ z13u42 (noR.cs) rfl (DvR.cs_one _) rfl (by kernel_rfl) ?_
        intro wu43 ru43 gu43
        have rsu43 := rsu42.kept gu43 (by simp; omega)
        have hku43 := hku42.apart inu41 gu43 (by rintro ⟨h1 | h1, h2⟩; exact h1; omega)
        have ra1u43 := ru42.kept gu43 (by simp; omega)
        have bu43 := below_kept bu42 gu43 bu42.size (by rintro q hq; cases hq; omega)
        have zu43 := gu43.size
        refine hK _ _ rsu43 ?_
        clear hK K
        simp only [Act.put]
        repeat (refine plan_take _ rfl ?_; (first | ((with_reducible refine wpQuiet_at ⟨some 28, _, _, _, _, _⟩ ?_); refine wpQuiet_valueG rfl _ (by intro _ hS; exact exec_loadH _ _ rfl (w2.heap.size) rfl hh H16h.out hS) (wpQuiet_nil ?_); simp only [Act.put, List.setIfInBounds_toArray, List.set_cons_zero, List.set_cons_succ]) | (go_big_quiet_step ((intros; rfl)); refine wpQuiet_nil ?_)))
        refine plan_done ?_
        go_wp2_with fail
        go_meet
        exact ⟨_, _, hu41, rfl, rfl, rfl, ra1u43, ru43, hku43, hsu41, by omega, by omega, bu43⟩
    · refine step_at _ rfl fun K hK => ?_
      refine step_alloc rfl _ rfl zeroR zero_rs ?_
      intro wu44 z13u44 su44 gu44
      have hu44 := grown_below gu44 (Nat.le_refl _) (by simp)
      have rsu44 := rsd.on hu44
      have oku44 := okd.on hu44
      have bu44 := b0.trans (hu44.mono b0.size)
      have zu44 := hu44.size
      refine hK _ _ rsu44 ?_
      clear hK K
      simp only [Act.put, List.setIfInBounds_toArray, List.set_cons_zero, List.set_cons_succ]
      refine plan_two ?_ ?_
      · refine step_at _ rfl fun K hK => ?_
        go_simp
        refine (s9_full _).mono ?_
        rintro e wu45 ⟨rfl, hu45⟩
        have rsu45 := rsu44.on hu45
        have oku45 := oku44.on hu45
        have z13u45 := z13u44.on hu45
        have bu45 := bu44.trans (hu45.mono bu44.size)
        have zu45 := hu45.size
        refine hK _ _ rsu45 ?_
        clear hK K
        repeat (refine plan_take _ rfl ?_; (first | ((with_reducible refine wpQuiet_at ⟨some 28, _, _, _, _, _⟩ ?_); refine wpQuiet_valueG rfl _ (by intro _ hS; exact exec_loadH _ _ rfl (w2.heap.size) rfl hh H16h.out hS) (wpQuiet_nil ?_); simp only [Act.put, List.setIfInBounds_toArray, List.set_cons_zero, List.set_cons_succ]) | (go_big_quiet_step ((intros; rfl)); refine wpQuiet_nil ?_)))
        refine plan_two ?_ ?_
        · refine step_at _ rfl fun K hK => ?_
          go_simp
          refine (s9_write _ hh oku45 HSh.out).mono ?_
          rintro e wu46 ⟨hu46, rfl, hku46, hiu46, hsu46, hbu46⟩
          have inu46 := hiu46.and hku46.in_
          have rsu46 := rsu45.on hbu46
          have oku46 := oku45.on hbu46
          have z13u46 := z13u45.on hbu46
          have bu46 := bu45.trans (hbu46.mono bu45.size)
          have zu46 := hbu46.size
          refine hK _ _ rsu46 ?_
          clear hK K
          repeat (refine plan_take _ rfl ?_; (first | ((with_reducible refine wpQuiet_at ⟨some 28, _, _, _, _, _⟩ ?_); refine wpQuiet_valueG rfl _ (by intro _ hS; exact exec_loadH _ _ rfl (w2.heap.size) rfl hh H16h.out hS) (wpQuiet_nil ?_); simp only [Act.put, List.setIfInBounds_toArray, List.set_cons_zero, List.set_cons_succ]) | (go_big_quiet_step ((intros; rfl)); refine wpQuiet_nil ?_)))
          refine plan_one _ rfl fun K hK => ?_
          refine step_alloc rfl _ rfl zeroH zero_hw ?_
          intro wu47 z12u47 su47 gu47
          have hu47 := grown_below gu47 (Nat.le_refl _) (by simp)
          have rsu47 := rsu46.on hu47
          have oku47 := oku46.on hu47
          have z13u47 := z13u46.on hu47
          have hku47 := hku46.on hu47
          have bu47 := bu46.trans (hu47.mono bu46.size)
          have zu47 := hu47.size
          refine hK _ _ rsu47 ?_
          clear hK K
          simp only [Act.put, List.setIfInBounds_toArray, List.set_cons_zero, List.set_cons_succ]
          refine plan_one _ rfl fun K hK => ?_
          refine step_store_all rfl _ _ _ rfl (wu46.heap.size) rfl _ _ z12u47 (hu46.cs) rfl (Hw.cs_one _) (hw_zl hku47.h16) (hw_size hku47.h16) ?_
          intro wu48 ru48 gu48
          have rsu48 := rsu47.kept gu48 (by simp; omega)
          have z13u48 := z13u47.kept gu48 (by simp; omega)
          have hku48 := hku47.apart inu46 gu48 (by rintro ⟨h1 | h1, h2⟩; exact h1; omega)
          have bu48 := below_kept bu47 gu48 bu47.size (by rintro q hq; cases hq; omega)
          have zu48 := gu48.size
          refine hK _ _ rsu48 ?_
          clear hK K
          simp only [Act.put]
          refine plan_one _ rfl fun K hK => ?_
          refine step_store_all rfl _ _ _ rfl (w4.drew.heap.size) rfl _ _ z13u48 (noR.cs) rfl (DvR.cs_one _) rfl (by kernel_rfl) ?_
          intro wu49 ru49 gu49
          have rsu49 := rsu48.kept gu49 (by simp; omega)
          have hku49 := hku48.apart inu46 gu49 (by rintro ⟨h1 | h1, h2⟩; exact h1; omega)
          have ra1u49 := ru48.kept gu49 (by simp; omega)
          have bu49 := below_kept bu48 gu49 bu48.size (by rintro q hq; cases hq; omega)
          have zu49 := gu49.size
          refine hK _ _ rsu49 ?_
          clear hK K
          simp only [Act.put]
          repeat (refine plan_take _ rfl ?_; (first | ((with_reducible refine wpQuiet_at ⟨some 28, _, _, _, _, _⟩ ?_); refine wpQuiet_valueG rfl _ (by intro _ hS; exact exec_loadH _ _ rfl (w2.heap.size) rfl hh H16h.out hS) (wpQuiet_nil ?_); simp only [Act.put, List.setIfInBounds_toArray, List.set_cons_zero, List.set_cons_succ]) | (go_big_quiet_step ((intros; rfl)); refine wpQuiet_nil ?_)))
          refine plan_done ?_
          go_wp2_with fail
          go_meet
          exact ⟨_, _, hu46, rfl, rfl, rfl, ra1u49, ru49, hku49, hsu46, by omega, by omega, bu49⟩
        · refine step_at _ rfl fun K hK => ?_
          refine step_alloc rfl _ rfl zeroH zero_hw ?_
          intro wu50 z12u50 su50 gu50
          have hu50 := grown_below gu50 (Nat.le_refl _) (by simp)
          have rsu50 := rsu45.on hu50
          have oku50 := oku45.on hu50
          have z13u50 := z13u45.on hu50
          have bu50 := bu45.trans (hu50.mono bu45.size)
          have zu50 := hu50.size
          refine hK _ _ rsu50 ?_
          clear hK K
          simp only [Act.put, List.setIfInBounds_toArray, List.set_cons_zero, List.set_cons_succ]
          refine plan_one _ rfl fun K hK => ?_
          go_simp
          refine (s9_write _ hh oku50 HSh.out).mono ?_
          rintro e wu51 ⟨hu51, rfl, hku51, hiu51, hsu51, hbu51⟩
          have inu51 := hiu51.and hku51.in_
          have rsu51 := rsu50.on hbu51
          have oku51 := oku50.on hbu51
          have z13u51 := z13u50.on hbu51
          have z12u51 := z12u50.on hbu51
          have bu51 := bu50.trans (hbu51.mono bu50.size)
          have zu51 := hbu51.size
          refine hK _ _ rsu51 ?_
          clear hK K
          repeat (refine plan_take _ rfl ?_; (first | ((with_reducible refine wpQuiet_at ⟨some 28, _, _, _, _, _⟩ ?_); refine wpQuiet_valueG rfl _ (by intro _ hS; exact exec_loadH _ _ rfl (w2.heap.size) rfl hh H16h.out hS) (wpQuiet_nil ?_); simp only [Act.put, List.setIfInBounds_toArray, List.set_cons_zero, List.set_cons_succ]) | (go_big_quiet_step ((intros; rfl)); refine wpQuiet_nil ?_)))
          refine plan_one _ rfl fun K hK => ?_
          refine step_store_all rfl _ _ _ rfl (wu45.heap.size) rfl _ _ z12u51 (hu51.cs) rfl (Hw.cs_one _) (hw_zl hku51.h16) (hw_size hku51.h16) ?_
          intro wu52 ru52 gu52
          have rsu52 := rsu51.kept gu52 (by simp; omega)
          have z13u52 := z13u51.kept gu52 (by simp; omega)
          have hku52 := hku51.apart inu51 gu52 (by rintro ⟨h1 | h1, h2⟩; exact h1; omega)
          have bu52 := below_kept bu51 gu52 bu51.size (by rintro q hq; cases hq; omega)
          have zu52 := gu52.size
          refine hK _ _ rsu52 ?_
          clear hK K
          simp only [Act.put]
          refine plan_one _ rfl fun K hK => ?_
          refine step_store_all rfl _ _ _ rfl (w4.drew.heap.size) rfl _ _ z13u52 (noR.cs) rfl (DvR.cs_one _) rfl (by kernel_rfl) ?_
          intro wu53 ru53 gu53
          have rsu53 := rsu52.kept gu53 (by simp; omega)
          have hku53 := hku52.apart inu51 gu53 (by rintro ⟨h1 | h1, h2⟩; exact h1; omega)
          have ra1u53 := ru52.kept gu53 (by simp; omega)
          have bu53 := below_kept bu52 gu53 bu52.size (by rintro q hq; cases hq; omega)
          have zu53 := gu53.size
          refine hK _ _ rsu53 ?_
          clear hK K
          simp only [Act.put]
          repeat (refine plan_take _ rfl ?_; (first | ((with_reducible refine wpQuiet_at ⟨some 28, _, _, _, _, _⟩ ?_); refine wpQuiet_valueG rfl _ (by intro _ hS; exact exec_loadH _ _ rfl (w2.heap.size) rfl hh H16h.out hS) (wpQuiet_nil ?_); simp only [Act.put, List.setIfInBounds_toArray, List.set_cons_zero, List.set_cons_succ]) | (go_big_quiet_step ((intros; rfl)); refine wpQuiet_nil ?_)))
          refine plan_done ?_
          go_wp2_with fail
          go_meet
          exact ⟨_, _, hu51, rfl, rfl, rfl, ra1u53, ru53, hku53, hsu51, by omega, by omega, bu53⟩
      · refine step_at _ rfl fun K hK => ?_
        refine step_alloc rfl _ rfl zeroH zero_hw ?_
        intro wu54 z12u54 su54 gu54
        have hu54 := grown_below gu54 (Nat.le_refl _) (by simp)
        have rsu54 := rsu44.on hu54
        have oku54 := oku44.on hu54
        have z13u54 := z13u44.on hu54
        have bu54 := bu44.trans (hu54.mono bu44.size)
        have zu54 := hu54.size
        refine hK _ _ rsu54 ?_
        clear hK K
        simp only [Act.put, List.setIfInBounds_toArray, List.set_cons_zero, List.set_cons_succ]
        refine plan_one _ rfl fun K hK => ?_
        go_simp
        refine (s9_full _).mono ?_
        rintro e wu55 ⟨rfl, hu55⟩
        have rsu55 := rsu54.on hu55
        have oku55 := oku54.on hu55
        have z13u55 := z13u54.on hu55
        have z12u55 := z12u54.on hu55
        have bu55 := bu54.trans (hu55.mono bu54.size)
        have zu55 := hu55.size
        refine hK _ _ rsu55 ?_
        clear hK K
        repeat (refine plan_take _ rfl ?_; (first | ((with_reducible refine wpQuiet_at ⟨some 28, _, _, _, _, _⟩ ?_); refine wpQuiet_valueG rfl _ (by intro _ hS; exact exec_loadH _ _ rfl (w2.heap.size) rfl hh H16h.out hS) (wpQuiet_nil ?_); simp only [Act.put, List.setIfInBounds_toArray, List.set_cons_zero, List.set_cons_succ]) | (go_big_quiet_step ((intros; rfl)); refine wpQuiet_nil ?_)))
        refine plan_one _ rfl fun K hK => ?_
        go_simp
        refine (s9_write _ hh oku55 HSh.out).mono ?_
        rintro e wu56 ⟨hu56, rfl, hku56, hiu56, hsu56, hbu56⟩
        have inu56 := hiu56.and hku56.in_
        have rsu56 := rsu55.on hbu56
        have oku56 := oku55.on hbu56
        have z13u56 := z13u55.on hbu56
        have z12u56 := z12u55.on hbu56
        have bu56 := bu55.trans (hbu56.mono bu55.size)
        have zu56 := hbu56.size
        refine hK _ _ rsu56 ?_
        clear hK K
        repeat (refine plan_take _ rfl ?_; (first | ((with_reducible refine wpQuiet_at ⟨some 28, _, _, _, _, _⟩ ?_); refine wpQuiet_valueG rfl _ (by intro _ hS; exact exec_loadH _ _ rfl (w2.heap.size) rfl hh H16h.out hS) (wpQuiet_nil ?_); simp only [Act.put, List.setIfInBounds_toArray, List.set_cons_zero, List.set_cons_succ]) | (go_big_quiet_step ((intros; rfl)); refine wpQuiet_nil ?_)))
        refine plan_one _ rfl fun K hK => ?_
        refine step_store_all rfl _ _ _ rfl (wu44.heap.size) rfl _ _ z12u56 (hu56.cs) rfl (Hw.cs_one _) (hw_zl hku56.h16) (hw_size hku56.h16) ?_
        intro wu57 ru57 gu57
        have rsu57 := rsu56.kept gu57 (by simp; omega)
        have z13u57 := z13u56.kept gu57 (by simp; omega)
        have hku57 := hku56.apart inu56 gu57 (by rintro ⟨h1 | h1, h2⟩; exact h1; omega)
        have bu57 := below_kept bu56 gu57 bu56.size (by rintro q hq; cases hq; omega)
        have zu57 := gu57.size
        refine hK _ _ rsu57 ?_
        clear hK K
        simp only [Act.put]
        refine plan_one _ rfl fun K hK => ?_
        refine step_store_all rfl _ _ _ rfl (w4.drew.heap.size) rfl _ _ z13u57 (noR.cs) rfl (DvR.cs_one _) rfl (by kernel_rfl) ?_
        intro wu58 ru58 gu58
        have rsu58 := rsu57.kept gu58 (by simp; omega)
        have hku58 := hku57.apart inu56 gu58 (by rintro ⟨h1 | h1, h2⟩; exact h1; omega)
        have ra1u58 := ru57.kept gu58 (by simp; omega)
        have bu58 := below_kept bu57 gu58 bu57.size (by rintro q hq; cases hq; omega)
        have zu58 := gu58.size
        refine hK _ _ rsu58 ?_
        clear hK K
        simp only [Act.put]
        repeat (refine plan_take _ rfl ?_; (first | ((with_reducible refine wpQuiet_at ⟨some 28, _, _, _, _, _⟩ ?_); refine wpQuiet_valueG rfl _ (by intro _ hS; exact exec_loadH _ _ rfl (w2.heap.size) rfl hh H16h.out hS) (wpQuiet_nil ?_); simp only [Act.put, List.setIfInBounds_toArray, List.set_cons_zero, List.set_cons_succ]) | (go_big_quiet_step ((intros; rfl)); refine wpQuiet_nil ?_)))
        refine plan_done ?_
        go_wp2_with fail
        go_meet
        exact ⟨_, _, hu56, rfl, rfl, rfl, ra1u58, ru58, hku58, hsu56, by omega, by omega, bu58⟩
  case rest =>
    revert wc
    intro wc hcut
    obtain ⟨gx, gr, hx, rfl, rfl, rfl, rx, rr, kx, sx, hga, hgr, hbc⟩ := hcut
    have HSx := Lib.hid sx
    have H16x := Lib.hid kx.h16
    clear sx
    have rr : Row wc gr 40 (⟨0, ⟨#[]⟩⟩ : DvR).cs := rr
    have Bc := B4.trans (hbc.mono B4.size)
    have kh_c := kh_4.on hbc
    have rh_c := rh_4.on hbc
    clear kh_4 rh_4
    have crr0 := rr.cell (j := 0) rfl
    have crr1 := rr.cell (j := 1) rfl
    go_wp2_with ((with_reducible refine wpList_at ⟨some 37, _, _, _, _, _⟩ ?_); refine wpList_valueG rfl _ (by exact exec_loadH _ _ rfl (gx) rfl hx H16x.out rx) ?_)
    refine (s9_read _ hx kx HSx.out).mono ?_
    rintro e w5 ⟨hy, rfl, ky, _, sy, h5⟩
    have B5 := Bc.trans (h5.mono Bc.size)
    have kh_5 := kh_c.on h5
    have rh_5 := rh_c.on h5
    have rx_5 := rx.on h5
    have kx_5 := kx.on h5
    have rr_5 := rr.on h5
    clear kh_c rh_c
    have crr0 := rr_5.cell (j := 0) rfl
    have crr1 := rr_5.cell (j := 1) rfl
    have HSy := Lib.hid sy
    have H16y := Lib.hid ky.h16
    clear sy
    go_wp2_with (first
      | (with_reducible refine wpList_alloc_row (o := ⟨some 6, _, _, _, _, _⟩) rfl _ rfl zeroH zero_hw ?_; intro w6 r6 s6 g6)
      | (with_reducible refine wpList_alloc_row (o := ⟨some 7, _, _, _, _, _⟩) rfl _ rfl zeroR zero_rs ?_; intro w7 r7 s7 g7; have q7 := r6.kept g7 (by simp); have k7 := below_kept (grown_below g6 (Nat.le_refl _) (by simp)) g7 (Nat.le_of_lt s6) (by simp))
      | ((with_reducible refine wpList_at ⟨none, .store _ (.tmp 6) _, _, _, _, _⟩ ?_); refine wpList_store_all rfl _ _ _ rfl w5.heap.size rfl _ _ q7 (hy.cs) rfl (hy.cs_one) (hw_zl H16y.out) (hw_size H16y.out) ?_; intro w8 t8 g8; have q8 := r7.kept g8 (by simp; omega); have k8 := below_kept k7 g8 k7.size (by rintro q hq; cases hq; exact Nat.le_refl _))
      | ((with_reducible refine wpList_at ⟨none, .store _ (.tmp 7) _, _, _, _, _⟩ ?_); refine wpList_store_all rfl _ _ _ rfl w6.heap.size rfl _ _ q8 ((⟨0, s9S⟩ : DvR).cs) rfl ((⟨0, s9S⟩ : DvR).cs_one) rfl (by kernel_rfl) ?_; intro w9 rs_9 g9; have k9 : Below w5.heap.size w5 w9 := below_kept k8 g9 k8.size (by rintro q hq; cases hq; exact Nat.le_of_lt s6); have ry_9 := t8.kept g9 (by simp; omega); have B9 := B5.trans (k9.mono B5.size); have kh_9 := kh_5.on k9; have rh_9 := rh_5.on k9; have rx_9 := rx_5.on k9; have kx_9 := kx_5.on k9; have rr_9 := rr_5.on k9; have ky_9 := ky.on k9; clear kh_5 rh_5 rx_5 kx_5 rr_5; have crr0 := rr_9.cell (j := 0) rfl; have crr1 := rr_9.cell (j := 1) rfl; have s9 := ry_9.lt; have v9 := rs_9.lt; clear r6 r7 q7 q8 t8 g6 g7 g8 g9 k7 k8; have crs0 := rs_9.cell (j := 0) rfl; have crs1 := rs_9.cell (j := 1) rfl)
      | ((with_reducible refine wpList_at ⟨some 45, _, _, _, _, _⟩ ?_); refine wpList_valueG rfl _ (by exact exec_loadH _ _ rfl (w5.heap.size) rfl hy H16y.out ry_9) ?_))
    refine (s9_pulse _ hy ky_9 HSy.out).mono ?_
    rintro e w10 ⟨hz, rfl, kz, _, sz, h10⟩
    have B10 := B9.trans (h10.mono B9.size)
    have kh_10 := kh_9.on h10
    have rh_10 := rh_9.on h10
    have rx_10 := rx_9.on h10
    have kx_10 := kx_9.on h10
    have rr_10 := rr_9.on h10
    have ky_10 := ky_9.on h10
    have ry_10 := ry_9.on h10
    have rs_10 := rs_9.on h10
    clear kh_9 rh_9 rx_9 kx_9 rr_9 ky_9 ry_9 rs_9
    have crr0 := rr_10.cell (j := 0) rfl
    have crr1 := rr_10.cell (j := 1) rfl
    have crs0 := rs_10.cell (j := 0) rfl
    have crs1 := rs_10.cell (j := 1) rfl
    have HSz := Lib.hid sz
    have H16z := Lib.hid kz.h16
    clear sz
    go_wp2_with (first
      | (with_reducible refine wpList_alloc_row (o := ⟨some 9, _, _, _, _, _⟩) rfl _ rfl zeroH zero_hw ?_; intro w11 r11 s11 g11)
      | (with_reducible refine wpList_alloc_row (o := ⟨some 10, _, _, _, _, _⟩) rfl _ rfl zeroR zero_rs ?_; intro w12 r12 s12 g12; have q12 := r11.kept g12 (by simp); have k12 := below_kept (grown_below g11 (Nat.le_refl _) (by simp)) g12 (Nat.le_of_lt s11) (by simp))
      | ((with_reducible refine wpList_at ⟨none, .store _ (.tmp 9) _, _, _, _, _⟩ ?_); refine wpList_store_all rfl _ _ _ rfl w10.heap.size rfl _ _ q12 (hz.cs) rfl (hz.cs_one) (hw_zl H16z.out) (hw_size H16z.out) ?_; intro w13 t13 g13; have q13 := r12.kept g13 (by simp; omega); have k13 := below_kept k12 g13 k12.size (by rintro q hq; cases hq; exact Nat.le_refl _))
      | ((with_reducible refine wpList_at ⟨none, .store _ (.tmp 10) _, _, _, _, _⟩ ?_); refine wpList_store_all rfl _ _ _ rfl w11.heap.size rfl _ _ q13 (noR.cs) rfl (noR.cs_one) rfl (by kernel_rfl) ?_; intro w14 rq_14 g14; have k14 : Below w10.heap.size w10 w14 := below_kept k13 g14 k13.size (by rintro q hq; cases hq; exact Nat.le_of_lt s11); have rz_14 := t13.kept g14 (by simp; omega); have B14 := B10.trans (k14.mono B10.size); have kh_14 := kh_10.on k14; have rh_14 := rh_10.on k14; have rx_14 := rx_10.on k14; have kx_14 := kx_10.on k14; have rr_14 := rr_10.on k14; have ky_14 := ky_10.on k14; have ry_14 := ry_10.on k14; have rs_14 := rs_10.on k14; have kz_14 := kz.on k14; clear kh_10 rh_10 rx_10 kx_10 rr_10 ky_10 ry_10 rs_10; have crr0 := rr_14.cell (j := 0) rfl; have crr1 := rr_14.cell (j := 1) rfl; have crs0 := rs_14.cell (j := 0) rfl; have crs1 := rs_14.cell (j := 1) rfl; have s14 := rz_14.lt; have v14 := rq_14.lt; clear r11 r12 q12 q13 t13 g11 g12 g13 g14 k12 k13)
      | ((with_reducible refine wpList_at ⟨some 53, _, _, _, _, _⟩ ?_); refine wpList_valueG rfl _ (by exact exec_loadH _ _ rfl (w10.heap.size) rfl hz H16z.out rz_14) ?_))
    refine (s9_one _ hz kz_14 HSz.out true).mono ?_
    rintro e w15 ⟨ha, rfl, ka, _, sa, h15⟩
    have B15 := B14.trans (h15.mono B14.size)
    have kh_15 := kh_14.on h15
    have rh_15 := rh_14.on h15
    have rx_15 := rx_14.on h15
    have kx_15 := kx_14.on h15
    have rr_15 := rr_14.on h15
    have ky_15 := ky_14.on h15
    have ry_15 := ry_14.on h15
    have rs_15 := rs_14.on h15
    have kz_15 := kz_14.on h15
    have rz_15 := rz_14.on h15
    have rq_15 := rq_14.on h15
    clear kh_14 rh_14 rx_14 kx_14 rr_14 ky_14 ry_14 rs_14 kz_14 rz_14 rq_14
    have crr0 := rr_15.cell (j := 0) rfl
    have crr1 := rr_15.cell (j := 1) rfl
    have crs0 := rs_15.cell (j := 0) rfl
    have crs1 := rs_15.cell (j := 1) rfl
    have HSa := Lib.hid sa
    have H16a := Lib.hid ka.h16
    clear sa
    go_wp2_with (first
      | (with_reducible refine wpList_alloc_row (o := ⟨some 12, _, _, _, _, _⟩) rfl _ rfl zeroH zero_hw ?_; intro w16 r16 s16 g16)
      | (with_reducible refine wpList_alloc_row (o := ⟨some 13, _, _, _, _, _⟩) rfl _ rfl zeroR zero_rs ?_; intro w17 r17 s17 g17; have q17 := r16.kept g17 (by simp); have k17 := below_kept (grown_below g16 (Nat.le_refl _) (by simp)) g17 (Nat.le_of_lt s16) (by simp))
      | ((with_reducible refine wpList_at ⟨none, .store _ (.tmp 12) _, _, _, _, _⟩ ?_); refine wpList_store_all rfl _ _ _ rfl w15.heap.size rfl _ _ q17 (ha.cs) rfl (ha.cs_one) (hw_zl H16a.out) (hw_size H16a.out) ?_; intro w18 t18 g18; have q18 := r17.kept g18 (by simp; omega); have k18 := below_kept k17 g18 k17.size (by rintro q hq; cases hq; exact Nat.le_refl _))
      | ((with_reducible refine wpList_at ⟨none, .store _ (.tmp 13) _, _, _, _, _⟩ ?_); refine wpList_store_all rfl _ _ _ rfl w16.heap.size rfl _ _ q18 ((⟨1, noB⟩ : DvR).cs) rfl ((⟨1, noB⟩ : DvR).cs_one) rfl (by kernel_rfl) ?_; intro w19 ro_19 g19; have k19 : Below w15.heap.size w15 w19 := below_kept k18 g19 k18.size (by rintro q hq; cases hq; exact Nat.le_of_lt s16); have ra_19 := t18.kept g19 (by simp; omega); have B19 := B15.trans (k19.mono B15.size); have kh_19 := kh_15.on k19; have rh_19 := rh_15.on k19; have rx_19 := rx_15.on k19; have kx_19 := kx_15.on k19; have rr_19 := rr_15.on k19; have ky_19 := ky_15.on k19; have ry_19 := ry_15.on k19; have rs_19 := rs_15.on k19; have kz_19 := kz_15.on k19; have rz_19 := rz_15.on k19; have rq_19 := rq_15.on k19; have ka_19 := ka.on k19; clear kh_15 rh_15 rx_15 kx_15 rr_15 ky_15 ry_15 rs_15 kz_15 rz_15 rq_15; have crr0 := rr_19.cell (j := 0) rfl; have crr1 := rr_19.cell (j := 1) rfl; have crs0 := rs_19.cell (j := 0) rfl; have crs1 := rs_19.cell (j := 1) rfl; have s19 := ra_19.lt; have v19 := ro_19.lt; clear r16 r17 q17 q18 t18 g16 g17 g18 g19 k17 k18; have cro0 := ro_19.cell (j := 0) rfl; have cro1 := ro_19.cell (j := 1) rfl)
      | ((with_reducible refine wpList_at ⟨some 61, _, _, _, _, _⟩ ?_); refine wpList_valueG rfl _ (by exact exec_loadH _ _ rfl (w10.heap.size) rfl hz H16z.out rz_19) ?_))
    refine (s9_one _ hz kz_19 HSz.out false).mono ?_
    rintro e w20 ⟨hb, rfl, kb, _, sb, h20⟩
    have B20 := B19.trans (h20.mono B19.size)
    have kh_20 := kh_19.on h20
    have rh_20 := rh_19.on h20
    have rx_20 := rx_19.on h20
    have kx_20 := kx_19.on h20
    have rr_20 := rr_19.on h20
    have ky_20 := ky_19.on h20
    have ry_20 := ry_19.on h20
    have rs_20 := rs_19.on h20
    have kz_20 := kz_19.on h20
    have rz_20 := rz_19.on h20
    have rq_20 := rq_19.on h20
    have ka_20 := ka_19.on h20
    have ra_20 := ra_19.on h20
    have ro_20 := ro_19.on h20
    clear kh_19 rh_19 rx_19 kx_19 rr_19 ky_19 ry_19 rs_19 kz_19 rz_19 rq_19 ka_19 ra_19 ro_19
    have crr0 := rr_20.cell (j := 0) rfl
    have crr1 := rr_20.cell (j := 1) rfl
    have crs0 := rs_20.cell (j := 0) rfl
    have crs1 := rs_20.cell (j := 1) rfl
    have cro0 := ro_20.cell (j := 0) rfl
    have cro1 := ro_20.cell (j := 1) rfl
    have HSb := Lib.hid sb
    have H16b := Lib.hid kb.h16
    clear sb
    go_wp2_with (first
      | (with_reducible refine wpList_alloc_row (o := ⟨some 15, _, _, _, _, _⟩) rfl _ rfl zeroH zero_hw ?_; intro w21 r21 s21 g21)
      | (with_reducible refine wpList_alloc_row (o := ⟨some 16, _, _, _, _, _⟩) rfl _ rfl zeroR zero_rs ?_; intro w22 r22 s22 g22; have q22 := r21.kept g22 (by simp); have k22 := below_kept (grown_below g21 (Nat.le_refl _) (by simp)) g22 (Nat.le_of_lt s21) (by simp))
      | ((with_reducible refine wpList_at ⟨none, .store _ (.tmp 15) _, _, _, _, _⟩ ?_); refine wpList_store_all rfl _ _ _ rfl w20.heap.size rfl _ _ q22 (hb.cs) rfl (hb.cs_one) (hw_zl H16b.out) (hw_size H16b.out) ?_; intro w23 t23 g23; have q23 := r22.kept g23 (by simp; omega); have k23 := below_kept k22 g23 k22.size (by rintro q hq; cases hq; exact Nat.le_refl _))
      | ((with_reducible refine wpList_at ⟨none, .store _ (.tmp 16) _, _, _, _, _⟩ ?_); refine wpList_store_all rfl _ _ _ rfl w21.heap.size rfl _ _ q23 ((⟨0, noB⟩ : DvR).cs) rfl ((⟨0, noB⟩ : DvR).cs_one) rfl (by kernel_rfl) ?_; intro w24 rt_24 g24; have k24 : Below w20.heap.size w20 w24 := below_kept k23 g24 k23.size (by rintro q hq; cases hq; exact Nat.le_of_lt s21); have rb_24 := t23.kept g24 (by simp; omega); have B24 := B20.trans (k24.mono B20.size); have kh_24 := kh_20.on k24; have rh_24 := rh_20.on k24; have rx_24 := rx_20.on k24; have kx_24 := kx_20.on k24; have rr_24 := rr_20.on k24; have ky_24 := ky_20.on k24; have ry_24 := ry_20.on k24; have rs_24 := rs_20.on k24; have kz_24 := kz_20.on k24; have rz_24 := rz_20.on k24; have rq_24 := rq_20.on k24; have ka_24 := ka_20.on k24; have ra_24 := ra_20.on k24; have ro_24 := ro_20.on k24; have kb_24 := kb.on k24; clear kh_20 rh_20 rx_20 kx_20 rr_20 ky_20 ry_20 rs_20 kz_20 rz_20 rq_20 ka_20 ra_20 ro_20; have crr0 := rr_24.cell (j := 0) rfl; have crr1 := rr_24.cell (j := 1) rfl; have crs0 := rs_24.cell (j := 0) rfl; have crs1 := rs_24.cell (j := 1) rfl; have cro0 := ro_24.cell (j := 0) rfl; have cro1 := ro_24.cell (j := 1) rfl; have s24 := rb_24.lt; have v24 := rt_24.lt; clear r21 r22 q22 q23 t23 g21 g22 g23 g24 k22 k23; have crt0 := rt_24.cell (j := 0) rfl; have crt1 := rt_24.cell (j := 1) rfl)
      | ((with_reducible refine wpList_at ⟨some 69, _, _, _, _, _⟩ ?_); refine wpList_valueG rfl _ (by exact exec_loadH _ _ rfl (w2.heap.size) rfl hh H16h.out rh_24) ?_))
    refine (s9_no _ hh kh_24 HSh.out).mono ?_
    rintro e w25 ⟨hc, rfl, kc, _, sc, h25⟩
    have B25 := B24.trans (h25.mono B24.size)
    have kh_25 := kh_24.on h25
    have rh_25 := rh_24.on h25
    have rx_25 := rx_24.on h25
    have kx_25 := kx_24.on h25
    have rr_25 := rr_24.on h25
    have ky_25 := ky_24.on h25
    have ry_25 := ry_24.on h25
    have rs_25 := rs_24.on h25
    have kz_25 := kz_24.on h25
    have rz_25 := rz_24.on h25
    have rq_25 := rq_24.on h25
    have ka_25 := ka_24.on h25
    have ra_25 := ra_24.on h25
    have ro_25 := ro_24.on h25
    have kb_25 := kb_24.on h25
    have rb_25 := rb_24.on h25
    have rt_25 := rt_24.on h25
    clear kh_24 rh_24 rx_24 kx_24 rr_24 ky_24 ry_24 rs_24 kz_24 rz_24 rq_24 ka_24 ra_24 ro_24 kb_24 rb_24 rt_24
    have crr0 := rr_25.cell (j := 0) rfl
    have crr1 := rr_25.cell (j := 1) rfl
    have crs0 := rs_25.cell (j := 0) rfl
    have crs1 := rs_25.cell (j := 1) rfl
    have cro0 := ro_25.cell (j := 0) rfl
    have cro1 := ro_25.cell (j := 1) rfl
    have crt0 := rt_25.cell (j := 0) rfl
    have crt1 := rt_25.cell (j := 1) rfl
    have HSc := Lib.hid sc
    have H16c := Lib.hid kc.h16
    clear sc
    go_wp2_with (first
      | (with_reducible refine wpList_alloc_row (o := ⟨some 18, _, _, _, _, _⟩) rfl _ rfl zeroH zero_hw ?_; intro w26 r26 s26 g26)
      | (with_reducible refine wpList_alloc_row (o := ⟨some 19, _, _, _, _, _⟩) rfl _ rfl zeroR zero_rs ?_; intro w27 r27 s27 g27; have q27 := r26.kept g27 (by simp); have k27 := below_kept (grown_below g26 (Nat.le_refl _) (by simp)) g27 (Nat.le_of_lt s26) (by simp))
      | ((with_reducible refine wpList_at ⟨none, .store _ (.tmp 18) _, _, _, _, _⟩ ?_); refine wpList_store_all rfl _ _ _ rfl w25.heap.size rfl _ _ q27 (hc.cs) rfl (hc.cs_one) (hw_zl H16c.out) (hw_size H16c.out) ?_; intro w28 t28 g28; have q28 := r27.kept g28 (by simp; omega); have k28 := below_kept k27 g28 k27.size (by rintro q hq; cases hq; exact Nat.le_refl _))
      | ((with_reducible refine wpList_at ⟨none, .store _ (.tmp 19) _, _, _, _, _⟩ ?_); refine wpList_store_all rfl _ _ _ rfl w26.heap.size rfl _ _ q28 (noR.cs) rfl (noR.cs_one) rfl (by kernel_rfl) ?_; intro w29 ru_29 g29; have k29 : Below w25.heap.size w25 w29 := below_kept k28 g29 k28.size (by rintro q hq; cases hq; exact Nat.le_of_lt s26); have rc_29 := t28.kept g29 (by simp; omega); have B29 := B25.trans (k29.mono B25.size); have kh_29 := kh_25.on k29; have rh_29 := rh_25.on k29; have rx_29 := rx_25.on k29; have kx_29 := kx_25.on k29; have rr_29 := rr_25.on k29; have ky_29 := ky_25.on k29; have ry_29 := ry_25.on k29; have rs_29 := rs_25.on k29; have kz_29 := kz_25.on k29; have rz_29 := rz_25.on k29; have rq_29 := rq_25.on k29; have ka_29 := ka_25.on k29; have ra_29 := ra_25.on k29; have ro_29 := ro_25.on k29; have kb_29 := kb_25.on k29; have rb_29 := rb_25.on k29; have rt_29 := rt_25.on k29; have kc_29 := kc.on k29; clear kh_25 rh_25 rx_25 kx_25 rr_25 ky_25 ry_25 rs_25 kz_25 rz_25 rq_25 ka_25 ra_25 ro_25 kb_25 rb_25 rt_25; have crr0 := rr_29.cell (j := 0) rfl; have crr1 := rr_29.cell (j := 1) rfl; have crs0 := rs_29.cell (j := 0) rfl; have crs1 := rs_29.cell (j := 1) rfl; have cro0 := ro_29.cell (j := 0) rfl; have cro1 := ro_29.cell (j := 1) rfl; have crt0 := rt_29.cell (j := 0) rfl; have crt1 := rt_29.cell (j := 1) rfl; have s29 := rc_29.lt; have v29 := ru_29.lt; clear r26 r27 q27 q28 t28 g26 g27 g28 g29 k27 k28)
      | ((with_reducible refine wpList_at ⟨some 107, _, _, _, _, _⟩ ?_); refine wpList_valueG rfl _ (by exact exec_loadR _ _ rfl (gr) rfl noR rr_29) ?_)
      | ((with_reducible refine wpList_at ⟨some 109, _, _, _, _, _⟩ ?_); refine wpList_valueG rfl _ (by exact exec_eql_rs _ _ _ rfl noR rfl rfl) ?_)
      | ((with_reducible refine wpList_at ⟨some 128, _, _, _, _, _⟩ ?_); refine wpList_valueG rfl _ (by exact exec_loadH _ _ rfl (gx) rfl hx H16x.out rx_29) ?_)
      | ((with_reducible refine wpList_at ⟨some 129, _, _, _, _, _⟩ ?_); refine wpList_valueG rfl _ (by exact exec_loadH _ _ rfl (w5.heap.size) rfl hy H16y.out ry_29) ?_))
    refine (s9_same _ hx kx_29 hy ky_29 HSx.out HSy.out).mono ?_
    rintro e w30 ⟨rfl, h30⟩
    have B30 := B29.trans (h30.mono B29.size)
    have kh_30 := kh_29.on h30
    have rh_30 := rh_29.on h30
    have rx_30 := rx_29.on h30
    have kx_30 := kx_29.on h30
    have rr_30 := rr_29.on h30
    have ky_30 := ky_29.on h30
    have ry_30 := ry_29.on h30
    have rs_30 := rs_29.on h30
    have kz_30 := kz_29.on h30
    have rz_30 := rz_29.on h30
    have rq_30 := rq_29.on h30
    have ka_30 := ka_29.on h30
    have ra_30 := ra_29.on h30
    have ro_30 := ro_29.on h30
    have kb_30 := kb_29.on h30
    have rb_30 := rb_29.on h30
    have rt_30 := rt_29.on h30
    have kc_30 := kc_29.on h30
    have rc_30 := rc_29.on h30
    have ru_30 := ru_29.on h30
    clear kh_29 rh_29 rx_29 kx_29 rr_29 ky_29 ry_29 rs_29 kz_29 rz_29 rq_29 ka_29 ra_29 ro_29 kb_29 rb_29 rt_29 kc_29 rc_29 ru_29
    have crr0 := rr_30.cell (j := 0) rfl
    have crr1 := rr_30.cell (j := 1) rfl
    have crs0 := rs_30.cell (j := 0) rfl
    have crs1 := rs_30.cell (j := 1) rfl
    have cro0 := ro_30.cell (j := 0) rfl
    have cro1 := ro_30.cell (j := 1) rfl
    have crt0 := rt_30.cell (j := 0) rfl
    have crt1 := rt_30.cell (j := 1) rfl
    go_wp2_with (first
      | ((with_reducible refine wpList_at ⟨some 133, _, _, _, _, _⟩ ?_); refine wpList_valueG rfl _ (by exact exec_loadH _ _ rfl (w2.heap.size) rfl hh H16h.out rh_30) ?_)
      | ((with_reducible refine wpList_at ⟨some 134, _, _, _, _, _⟩ ?_); refine wpList_valueG rfl _ (by exact exec_loadH _ _ rfl (gx) rfl hx H16x.out rx_30) ?_))
    refine (s9_diff _ hh kh_30 hx kx_30 HSh.out HSx.out).mono ?_
    rintro e w31 ⟨rfl, h31⟩
    have B31 := B30.trans (h31.mono B30.size)
    have kh_31 := kh_30.on h31
    have rh_31 := rh_30.on h31
    have rx_31 := rx_30.on h31
    have kx_31 := kx_30.on h31
    have rr_31 := rr_30.on h31
    have ky_31 := ky_30.on h31
    have ry_31 := ry_30.on h31
    have rs_31 := rs_30.on h31
    have kz_31 := kz_30.on h31
    have rz_31 := rz_30.on h31
    have rq_31 := rq_30.on h31
    have ka_31 := ka_30.on h31
    have ra_31 := ra_30.on h31
    have ro_31 := ro_30.on h31
    have kb_31 := kb_30.on h31
    have rb_31 := rb_30.on h31
    have rt_31 := rt_30.on h31
    have kc_31 := kc_30.on h31
    have rc_31 := rc_30.on h31
    have ru_31 := ru_30.on h31
    clear kh_30 rh_30 rx_30 kx_30 rr_30 ky_30 ry_30 rs_30 kz_30 rz_30 rq_30 ka_30 ra_30 ro_30 kb_30 rb_30 rt_30 kc_30 rc_30 ru_30
    have crr0 := rr_31.cell (j := 0) rfl
    have crr1 := rr_31.cell (j := 1) rfl
    have crs0 := rs_31.cell (j := 0) rfl
    have crs1 := rs_31.cell (j := 1) rfl
    have cro0 := ro_31.cell (j := 0) rfl
    have cro1 := ro_31.cell (j := 1) rfl
    have crt0 := rt_31.cell (j := 0) rfl
    have crt1 := rt_31.cell (j := 1) rfl
    go_wp2_with (first
      | ((with_reducible refine wpList_at ⟨some 140, _, _, _, _, _⟩ ?_); refine wpList_valueG rfl _ (by exact exec_loadHR _ _ rfl (w2.heap.size) rfl hh H16h.out rh_31) ?_)
      | ((with_reducible refine wpList_at ⟨some 142, _, _, _, _, _⟩ ?_); refine wpList_valueG rfl _ (by exact exec_eql16b _ _ _ rfl hh.rt rt5 H16h.out rt5_len true (decide_eq_true (congrArg DvS.rt HSh.out)) rfl rfl) ?_))
    go_ret
    exact ⟨rfl, B31⟩

end Go.Proofs.Ytkepmhkakkkliaa
