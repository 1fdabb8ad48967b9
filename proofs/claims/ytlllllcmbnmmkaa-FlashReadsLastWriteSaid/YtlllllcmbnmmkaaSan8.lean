/-
  The law file's sanity examples: a walk. No condition.
-/
import Derived.Test.YtlllllcmbnmmkaaFlRN
namespace Go.Proofs.Ytlllllcmbnmmkaa
open Go.RowKit

def s8Z : ByteArray := fullS 0
def s8S : ByteArray := fullS 7
def s8F : List ByteArray := flNew 2
def s8G : List ByteArray := flWrite s8F 1 s8S 3
theorem s8_z : s8Z.size = 256 := fullS_size 0
theorem s8_f : s8F = [s8Z, s8Z] := rfl
theorem s8_g : s8G = [s8Z, flW s8S 3 s8Z] := by
  exact flWrite_nat (fs := s8F) (j := 1) (s := s8Z) (b := s8S) rfl (fullS_size 7) 3
theorem s8_w : flW s8S 3 s8Z = ⟨#[7, 7, 7]⟩ ++ s8Z.extract 3 s8Z.size := by
  refine ba_ext ?_
  have h := tl_cut (b := s8S) (c := 3) (by omega) s8Z
  refine h.trans ?_
  rw [tl_app, tl_extract, s8_z]
  decide +kernel
theorem s8_new (W : World) : Calls Try.prog 11 #[.int .i64 2] W (GivesLE s8F 0 W) := lnew_any 2 W
theorem s8_big (W : World) : Calls Try.prog 11 #[.int .i64 129] W (GivesLE [] 1 W) := lnew_any 129 W
theorem s8_full7 (W : World) : Calls Try.prog 21 #[.int .u8 7] W (TellsS s8S W) := full_any 7 W
theorem s8_full0 (W : World) : Calls Try.prog 21 #[.int .u8 0] W (TellsS s8Z W) := full_any 0 W
section
variable (W : World) (A : Option Addr) (n c : Nat) (h : FlOK W A n c s8F)
include h
theorem s8_n : n = 2 := by rw [← h.len]; rfl
theorem s8_write : Calls Try.prog 15 #[.agg #[.slice A n c], .int .i64 1, .string s8S, .int .i64 3] W (GivesLO s8G 0 W) := by
  have h0 := lwrite_own A n c s8F 1 s8S 3 W h (by have := s8_n W A n c h; omega)
  rw [show flWErr s8F 1 s8S = 0 from flWErr_yes (fs := s8F) (k := 1) rfl (fullS_size 7)] at h0
  exact h0
theorem s8_wnone : Calls Try.prog 15 #[.agg #[.slice A n c], .int .i64 2, .string s8S, .int .i64 (-1)] W (GivesLO s8F 13 W) := by
  have h0 := lwrite_own A n c s8F 2 s8S (-1) W h (by have := s8_n W A n c h; omega)
  rw [flWErr_no (fs := s8F) (k := 2) rfl, flWrite_no (fs := s8F) (k := 2) rfl] at h0
  exact h0
theorem s8_warg : Calls Try.prog 15 #[.agg #[.slice A n c], .int .i64 0, .string ⟨#[120]⟩, .int .i64 (-1)] W (GivesLE s8F 1 W) := by
  have h0 := lwrite_any A n c s8F 0 ⟨#[120]⟩ (-1) W h (by have := s8_n W A n c h; omega)
  rw [flWErr_len (fs := s8F) (k := 0) rfl (by decide), flWrite_len (fs := s8F) (k := 0) (by decide)] at h0
  exact h0
theorem s8_rnone : Calls Try.prog 13 #[.agg #[.slice A n c], .int .i64 2] W (TellsSI ⟨#[]⟩ 13 W) := lread_any A n c s8F 2 W h
theorem s8_sff : Calls Try.prog 20 #[.agg #[.slice A n c], .agg #[.slice A n c]] W (TellsB true W) := by
  have h0 := lsame_any A A n c n c s8F s8F W h h
  rw [decide_eq_true rfl] at h0
  exact h0
theorem s8_sfg (B : Option Addr) (m d : Nat) (g : FlOK W B m d s8G) : Calls Try.prog 20 #[.agg #[.slice A n c], .agg #[.slice B m d]] W (TellsB false W) := by
  have h0 := lsame_any A B n c m d s8F s8G W h g
  rw [decide_eq_false (fun e => by
    rw [s8_f, s8_g] at e
    have e2 := congrArg tl (List.cons.inj (List.cons.inj e).2).1
    have e3 := congrArg List.head? (e2.trans (tl_cut (b := s8S) (c := 3) (by omega) s8Z))
    revert e3
    decide +kernel)] at h0
  exact h0
end
theorem s8_read (W : World) (A : Option Addr) (n c : Nat) (h : FlOK W A n c s8G) : Calls Try.prog 13 #[.agg #[.slice A n c], .int .i64 1] W (TellsSI (⟨#[7, 7, 7]⟩ ++ s8Z.extract 3 s8Z.size) 0 W) := by
  have h0 := lread_any A n c s8G 1 W h
  rw [show flRead s8G 1 = _ from (flRead_nat (fs := s8G) (j := 1) (s := flW s8S 3 s8Z) (by rw [s8_g]; rfl)).trans s8_w, show flErr s8G 1 = 0 from flErr_nat (fs := s8G) (j := 1) (by rw [s8_g]; simp)] at h0
  exact h0
theorem s8_vg (W : World) (A : Option Addr) (n c : Nat) (h : FlOK W A n c s8G) : Calls Try.prog 18 #[.agg #[.slice A n c]] W (TellsB true W) := by
  have h0 := lvalid_any A n c s8G W h
  rw [show flValid s8G = true from flvalid_write (flvalid_of (by rw [s8_f]; decide) (by rw [s8_f]; intro s hs; simp at hs; rw [hs]; exact s8_z)) (fullS_size 7) 3] at h0
  exact h0
theorem s8_vx (W : World) : Calls Try.prog 18 #[.agg #[.slice (some ⟨W.heap.size, 0, none⟩) 1 1]] (W.alloc (.cells [.string ⟨#[]⟩].toArray 9)) (TellsB false (W.alloc (.cells [.string ⟨#[]⟩].toArray 9))) := by
  have h0 := lvalid_any (some ⟨W.heap.size, 0, none⟩) 1 1 [⟨#[]⟩] (W.alloc (.cells [.string ⟨#[]⟩].toArray 9)) ⟨(row_alloc W 9 [.string ⟨#[]⟩]).reads rfl, Nat.le_refl _, by unfold maxLen; omega, by intro s hs; simp at hs; rw [hs]; decide⟩
  rw [show flValid [⟨#[]⟩] = false by decide] at h0
  exact h0

set_option maxRecDepth 100000 in
set_option maxHeartbeats 4000000 in
theorem sanity8_any (w : World) : Calls Try.prog 9 #[] w (TellsB true w) := by
  have hz3 : 3 ≤ s8Z.size := by rw [s8_z]; omega
  have hz9 : s8Z.size ≤ 1000 := by rw [s8_z]; omega
  go_enter Try.func9, Try.ntmps9
  go_wp2_with fail
  refine (s8_new _).mono ?_
  rintro e w1 ⟨Af, nf, mf, rfl, okf1, h1⟩
  have B1 : Below w.heap.size w w1 := h1
  unfold flv
  go_wp2_with (first
    | (with_reducible refine wpList_alloc_row (o := ⟨some 1, _, _, _, _, _⟩) rfl _ rfl [.slice none 0 0] (by kernel_rfl) ?_; intro w2 r2 s2 g2)
    | ((with_reducible refine wpList_at ⟨none, .store _ (.tmp 1) _, _, _, _, _⟩ ?_); refine wpList_store_all rfl _ _ _ rfl w1.heap.size rfl _ _ r2 [.slice Af nf mf] rfl (slice_one _ _ _) rfl (by kernel_rfl) ?_; intro w3 f_3 g3; have k3 : Below w1.heap.size w1 w3 := below_kept (grown_below g2 (Nat.le_refl _) (by simp)) g3 (Nat.le_of_lt s2) (by rintro q hq; cases hq; exact Nat.le_refl _); have B3 := B1.trans (k3.mono B1.size); have okf_3 := okf1.on k3; have cf := f_3.cell (j := 0) rfl; clear r2 g2 g3))
  try simp only [Act.put, List.setIfInBounds_toArray, List.set_cons_zero, List.set_cons_succ]
  go_cut [3, 4] (fun s1 s2 wc4 => ∃ g A n c, s1 = .pointer (some ⟨g, 0, none⟩) ∧ s2 = .int .i64 (0) ∧ Row wc4 g 24 [.slice A n c] ∧ wc4.ownsRow w3.heap.size 9 1 (.slice A n c) n (svs s8G) ∧ (∀ s ∈ s8G, s.size ≤ 9223372036854775807) ∧ w3.heap.size ≤ g ∧ Below w3.heap.size w3 wc4)
  case first =>
    have zd : w3.drew.heap.size = w3.heap.size := rfl
    have zl := f_3.lt
    have e0 := f_3.drew
    have o0 : FlOK w3.drew Af nf mf s8F := okf_3
    have b0 : Below w3.heap.size w3 w3.drew := (Below.refl _ _).drew
    refine wp_region_plan (fun w' => Row w' (w1.heap.size) 24 ([.slice Af nf mf])) (.take 0 <| .two 1 (.two 2 (.take 3 <| .take 4 <| .take 5 <| .one 6 <| .one 7 <| .take 8 <| .done) 6 (.one 2 <| .take 3 <| .take 4 <| .take 5 <| .one 7 <| .take 8 <| .done)) 6 (.one 1 <| .one 2 <| .take 3 <| .take 4 <| .take 5 <| .one 7 <| .take 8 <| .done)) (by kernel_rfl) (by kernel_rfl) (by kernel_rfl) (fun _ _ _ _ _ h => h) e0 ?_
    repeat (refine plan_take _ rfl ?_; (first | (refine wpQuiet_valueG (o := ⟨some 20, _, _, _, _, _⟩) rfl _ (by intro _ h; exact exec_load _ 24 _ rfl ⟨w1.heap.size, 0, none⟩ rfl [.slice Af nf mf] h.cells _ Try.underlying24 rfl (by kernel_rfl)) (wpQuiet_nil ?_); simp only [Act.put, List.setIfInBounds_toArray, List.set_cons_zero, List.set_cons_succ]) | (go_big_quiet_step ((intros; rfl)); refine wpQuiet_nil ?_)))
    refine plan_two ?_ ?_
    · refine step_at _ rfl fun K hK => ?_
      go_simp
      refine (s8_full7 _).mono ?_
      rintro e wu1 ⟨rfl, hu1⟩
      have eu1 := e0.on hu1
      have ou1 := o0.on hu1
      have bu1 := b0.trans (hu1.mono b0.size)
      have zu1 := hu1.size
      refine hK _ _ eu1 ?_
      clear hK K
      refine plan_two ?_ ?_
      · refine step_at _ rfl fun K hK => ?_
        go_simp
        refine (s8_write _ Af nf mf ou1).mono ?_
        rintro e wu2 ⟨Au2, nu2, cu2, rfl, ownu2, szu2, hu2⟩
        unfold flv
        have eu2 := eu1.on hu2
        have ou2 := ou1.on hu2
        have bu2 := bu1.trans (hu2.mono bu1.size)
        have zu2 := hu2.size
        refine hK _ _ eu2 ?_
        clear hK K
        repeat (refine plan_take _ rfl ?_; (first | (refine wpQuiet_valueG (o := ⟨some 20, _, _, _, _, _⟩) rfl _ (by intro _ h; exact exec_load _ 24 _ rfl ⟨w1.heap.size, 0, none⟩ rfl [.slice Af nf mf] h.cells _ Try.underlying24 rfl (by kernel_rfl)) (wpQuiet_nil ?_); simp only [Act.put, List.setIfInBounds_toArray, List.set_cons_zero, List.set_cons_succ]) | (go_big_quiet_step ((intros; rfl)); refine wpQuiet_nil ?_)))
        refine plan_one _ rfl fun K hK => ?_
        refine step_alloc rfl _ rfl [.slice none 0 0] (by kernel_rfl) ?_
        intro wu3 ru3 su3 gu3
        have hu3 := grown_below gu3 (Nat.le_refl _) (by simp)
        have zau3 := bu2.size
        have eu3 := eu2.on hu3
        have ou3 := ou2.on hu3
        have ownu3 := own_below ownu2 hu3
        have bu3 := bu2.trans (hu3.mono bu2.size)
        have zu3 := hu3.size
        refine hK _ _ eu3 ?_
        clear hK K
        simp only [Act.put, List.setIfInBounds_toArray, List.set_cons_zero, List.set_cons_succ]
        refine plan_one _ rfl fun K hK => ?_
        refine step_store_all rfl _ _ _ rfl wu2.heap.size rfl _ _ ru3 [(.slice Au2 nu2 cu2)] rfl (slice_one _ _ _) rfl (by kernel_rfl) ?_
        intro wu4 ru4 gu4
        have eu4 := eu3.kept gu4 (by simp; omega)
        have ownu4 := own_below ownu2 (below_kept (grown_below gu3 (Nat.le_refl _) (by simp)) gu4 (Nat.le_of_lt su3) (by rintro q hq; cases hq; exact Nat.le_refl _))
        have bu4 := below_kept bu3 gu4 bu3.size (by rintro q hq; cases hq; omega)
        refine hK _ _ eu4 ?_
        clear hK K
        simp only [Act.put]
        repeat (refine plan_take _ rfl ?_; (first | (refine wpQuiet_valueG (o := ⟨some 20, _, _, _, _, _⟩) rfl _ (by intro _ h; exact exec_load _ 24 _ rfl ⟨w1.heap.size, 0, none⟩ rfl [.slice Af nf mf] h.cells _ Try.underlying24 rfl (by kernel_rfl)) (wpQuiet_nil ?_); simp only [Act.put, List.setIfInBounds_toArray, List.set_cons_zero, List.set_cons_succ]) | (go_big_quiet_step ((intros; rfl)); refine wpQuiet_nil ?_)))
        refine plan_done ?_
        go_wp2_with fail
        go_meet
        exact ⟨_, _, _, _, rfl, rfl, ru4, own_base ownu4 (by omega), szu2, by omega, bu4⟩
      · refine step_at _ rfl fun K hK => ?_
        refine step_alloc rfl _ rfl [.slice none 0 0] (by kernel_rfl) ?_
        intro wu5 ru5 su5 gu5
        have hu5 := grown_below gu5 (Nat.le_refl _) (by simp)
        have zau5 := bu1.size
        have eu5 := eu1.on hu5
        have ou5 := ou1.on hu5
        have bu5 := bu1.trans (hu5.mono bu1.size)
        have zu5 := hu5.size
        refine hK _ _ eu5 ?_
        clear hK K
        simp only [Act.put, List.setIfInBounds_toArray, List.set_cons_zero, List.set_cons_succ]
        refine plan_one _ rfl fun K hK => ?_
        go_simp
        refine (s8_write _ Af nf mf ou5).mono ?_
        rintro e wu6 ⟨Au6, nu6, cu6, rfl, ownu6, szu6, hu6⟩
        unfold flv
        have eu6 := eu5.on hu6
        have ou6 := ou5.on hu6
        have rzu6 := ru5.on hu6
        have bu6 := bu5.trans (hu6.mono bu5.size)
        have zu6 := hu6.size
        refine hK _ _ eu6 ?_
        clear hK K
        repeat (refine plan_take _ rfl ?_; (first | (refine wpQuiet_valueG (o := ⟨some 20, _, _, _, _, _⟩) rfl _ (by intro _ h; exact exec_load _ 24 _ rfl ⟨w1.heap.size, 0, none⟩ rfl [.slice Af nf mf] h.cells _ Try.underlying24 rfl (by kernel_rfl)) (wpQuiet_nil ?_); simp only [Act.put, List.setIfInBounds_toArray, List.set_cons_zero, List.set_cons_succ]) | (go_big_quiet_step ((intros; rfl)); refine wpQuiet_nil ?_)))
        refine plan_one _ rfl fun K hK => ?_
        refine step_store_all rfl _ _ _ rfl wu1.heap.size rfl _ _ rzu6 [(.slice Au6 nu6 cu6)] rfl (slice_one _ _ _) rfl (by kernel_rfl) ?_
        intro wu7 ru7 gu7
        have eu7 := eu6.kept gu7 (by simp; omega)
        have ownu7 := own_kept_lt ownu6 gu7 (by omega)
        have bu7 := below_kept bu6 gu7 bu6.size (by rintro q hq; cases hq; omega)
        refine hK _ _ eu7 ?_
        clear hK K
        simp only [Act.put]
        repeat (refine plan_take _ rfl ?_; (first | (refine wpQuiet_valueG (o := ⟨some 20, _, _, _, _, _⟩) rfl _ (by intro _ h; exact exec_load _ 24 _ rfl ⟨w1.heap.size, 0, none⟩ rfl [.slice Af nf mf] h.cells _ Try.underlying24 rfl (by kernel_rfl)) (wpQuiet_nil ?_); simp only [Act.put, List.setIfInBounds_toArray, List.set_cons_zero, List.set_cons_succ]) | (go_big_quiet_step ((intros; rfl)); refine wpQuiet_nil ?_)))
        refine plan_done ?_
        go_wp2_with fail
        go_meet
        exact ⟨_, _, _, _, rfl, rfl, ru7, own_base ownu7 (by omega), szu6, by omega, bu7⟩
    · refine step_at _ rfl fun K hK => ?_
      refine step_alloc rfl _ rfl [.slice none 0 0] (by kernel_rfl) ?_
      intro wu8 ru8 su8 gu8
      have hu8 := grown_below gu8 (Nat.le_refl _) (by simp)
      have zau8 := b0.size
      have eu8 := e0.on hu8
      have ou8 := o0.on hu8
      have bu8 := b0.trans (hu8.mono b0.size)
      have zu8 := hu8.size
      refine hK _ _ eu8 ?_
      clear hK K
      simp only [Act.put, List.setIfInBounds_toArray, List.set_cons_zero, List.set_cons_succ]
      refine plan_one _ rfl fun K hK => ?_
      go_simp
      refine (s8_full7 _).mono ?_
      rintro e wu9 ⟨rfl, hu9⟩
      have eu9 := eu8.on hu9
      have ou9 := ou8.on hu9
      have rzu9 := ru8.on hu9
      have bu9 := bu8.trans (hu9.mono bu8.size)
      have zu9 := hu9.size
      refine hK _ _ eu9 ?_
      clear hK K
      refine plan_one _ rfl fun K hK => ?_
      go_simp
      refine (s8_write _ Af nf mf ou9).mono ?_
      rintro e wu10 ⟨Au10, nu10, cu10, rfl, ownu10, szu10, hu10⟩
      unfold flv
      have eu10 := eu9.on hu10
      have ou10 := ou9.on hu10
      have rzu10 := rzu9.on hu10
      have bu10 := bu9.trans (hu10.mono bu9.size)
      have zu10 := hu10.size
      refine hK _ _ eu10 ?_
      clear hK K
      repeat (refine plan_take _ rfl ?_; (first | (refine wpQuiet_valueG (o := ⟨some 20, _, _, _, _, _⟩) rfl _ (by intro _ h; exact exec_load _ 24 _ rfl ⟨w1.heap.size, 0, none⟩ rfl [.slice Af nf mf] h.cells _ Try.underlying24 rfl (by kernel_rfl)) (wpQuiet_nil ?_); simp only [Act.put, List.setIfInBounds_toArray, List.set_cons_zero, List.set_cons_succ]) | (go_big_quiet_step ((intros; rfl)); refine wpQuiet_nil ?_)))
      refine plan_one _ rfl fun K hK => ?_
      refine step_store_all rfl _ _ _ rfl w3.drew.heap.size rfl _ _ rzu10 [(.slice Au10 nu10 cu10)] rfl (slice_one _ _ _) rfl (by kernel_rfl) ?_
      intro wu11 ru11 gu11
      have eu11 := eu10.kept gu11 (by simp; omega)
      have ownu11 := own_kept_lt ownu10 gu11 (by omega)
      have bu11 := below_kept bu10 gu11 bu10.size (by rintro q hq; cases hq; omega)
      refine hK _ _ eu11 ?_
      clear hK K
      simp only [Act.put]
      repeat (refine plan_take _ rfl ?_; (first | (refine wpQuiet_valueG (o := ⟨some 20, _, _, _, _, _⟩) rfl _ (by intro _ h; exact exec_load _ 24 _ rfl ⟨w1.heap.size, 0, none⟩ rfl [.slice Af nf mf] h.cells _ Try.underlying24 rfl (by kernel_rfl)) (wpQuiet_nil ?_); simp only [Act.put, List.setIfInBounds_toArray, List.set_cons_zero, List.set_cons_succ]) | (go_big_quiet_step ((intros; rfl)); refine wpQuiet_nil ?_)))
      refine plan_done ?_
      go_wp2_with fail
      go_meet
      exact ⟨_, _, _, _, rfl, rfl, ru11, own_base ownu11 (by omega), szu10, by omega, bu11⟩
  case rest =>
    revert wc
    intro wc4 hcut
    obtain ⟨g_g, Ag, ng, mg, rfl, rfl, g_4, owng4, szg4, ggeg, h4⟩ := hcut
    have okg4 := own_flok owng4 szg4
    have B4 := B3.trans (h4.mono B3.size)
    have okf_4 := okf_3.on h4
    have f_4 := f_3.on h4
    clear okf_3 f_3
    have cf := f_4.cell (j := 0) rfl
    have cg := g_4.cell (j := 0) rfl
    go_wp2_with fail
    refine (s8_read _ Ag ng mg okg4).mono ?_
    rintro e w5 ⟨rfl, h5⟩
    have B5 := B4.trans (h5.mono B4.size)
    have okf_5 := okf_4.on h5
    have f_5 := f_4.on h5
    have g_5 := g_4.on h5
    have okg_5 := okg4.on h5
    clear okf_4 f_4 g_4
    have cf := f_5.cell (j := 0) rfl
    have cg := g_5.cell (j := 0) rfl
    go_wp2_with fail
    try simp only [Act.put, List.setIfInBounds_toArray, List.set_cons_zero, List.set_cons_succ]
    go_cut [7, 8] (fun s1 s2 wc6 => ∃ g A n c, s1 = .pointer (some ⟨g, 0, none⟩) ∧ s2 = .int .i64 (13) ∧ Row wc6 g 24 [.slice A n c] ∧ wc6.ownsRow w5.heap.size 9 1 (.slice A n c) n (svs s8F) ∧ (∀ s ∈ s8F, s.size ≤ 9223372036854775807) ∧ w5.heap.size ≤ g ∧ Below w5.heap.size w5 wc6)
    case first =>
      have zd : w5.drew.heap.size = w5.heap.size := rfl
      have zl := f_5.lt
      have e0 := f_5.drew
      have o0 : FlOK w5.drew Af nf mf s8F := okf_5
      have b0 : Below w5.heap.size w5 w5.drew := (Below.refl _ _).drew
      refine wp_region_plan (fun w' => Row w' (w1.heap.size) 24 ([.slice Af nf mf])) (.take 0 <| .two 1 (.two 2 (.take 3 <| .take 4 <| .take 5 <| .one 6 <| .one 7 <| .take 8 <| .done) 6 (.one 2 <| .take 3 <| .take 4 <| .take 5 <| .one 7 <| .take 8 <| .done)) 6 (.one 1 <| .one 2 <| .take 3 <| .take 4 <| .take 5 <| .one 7 <| .take 8 <| .done)) (by kernel_rfl) (by kernel_rfl) (by kernel_rfl) (fun _ _ _ _ _ h => h) e0 ?_
      repeat (refine plan_take _ rfl ?_; (first | (refine wpQuiet_valueG (o := ⟨some 31, _, _, _, _, _⟩) rfl _ (by intro _ h; exact exec_load _ 24 _ rfl ⟨w1.heap.size, 0, none⟩ rfl [.slice Af nf mf] h.cells _ Try.underlying24 rfl (by kernel_rfl)) (wpQuiet_nil ?_); simp only [Act.put, List.setIfInBounds_toArray, List.set_cons_zero, List.set_cons_succ]) | (go_big_quiet_step ((intros; rfl)); refine wpQuiet_nil ?_)))
      refine plan_two ?_ ?_
      · refine step_at _ rfl fun K hK => ?_
        go_simp
        refine (s8_full7 _).mono ?_
        rintro e wu12 ⟨rfl, hu12⟩
        have eu12 := e0.on hu12
        have ou12 := o0.on hu12
        have bu12 := b0.trans (hu12.mono b0.size)
        have zu12 := hu12.size
        refine hK _ _ eu12 ?_
        clear hK K
        refine plan_two ?_ ?_
        · refine step_at _ rfl fun K hK => ?_
          go_simp
          refine (s8_wnone _ Af nf mf ou12).mono ?_
          rintro e wu13 ⟨Au13, nu13, cu13, rfl, ownu13, szu13, hu13⟩
          unfold flv
          have eu13 := eu12.on hu13
          have ou13 := ou12.on hu13
          have bu13 := bu12.trans (hu13.mono bu12.size)
          have zu13 := hu13.size
          refine hK _ _ eu13 ?_
          clear hK K
          repeat (refine plan_take _ rfl ?_; (first | (refine wpQuiet_valueG (o := ⟨some 31, _, _, _, _, _⟩) rfl _ (by intro _ h; exact exec_load _ 24 _ rfl ⟨w1.heap.size, 0, none⟩ rfl [.slice Af nf mf] h.cells _ Try.underlying24 rfl (by kernel_rfl)) (wpQuiet_nil ?_); simp only [Act.put, List.setIfInBounds_toArray, List.set_cons_zero, List.set_cons_succ]) | (go_big_quiet_step ((intros; rfl)); refine wpQuiet_nil ?_)))
          refine plan_one _ rfl fun K hK => ?_
          refine step_alloc rfl _ rfl [.slice none 0 0] (by kernel_rfl) ?_
          intro wu14 ru14 su14 gu14
          have hu14 := grown_below gu14 (Nat.le_refl _) (by simp)
          have zau14 := bu13.size
          have eu14 := eu13.on hu14
          have ou14 := ou13.on hu14
          have ownu14 := own_below ownu13 hu14
          have bu14 := bu13.trans (hu14.mono bu13.size)
          have zu14 := hu14.size
          refine hK _ _ eu14 ?_
          clear hK K
          simp only [Act.put, List.setIfInBounds_toArray, List.set_cons_zero, List.set_cons_succ]
          refine plan_one _ rfl fun K hK => ?_
          refine step_store_all rfl _ _ _ rfl wu13.heap.size rfl _ _ ru14 [(.slice Au13 nu13 cu13)] rfl (slice_one _ _ _) rfl (by kernel_rfl) ?_
          intro wu15 ru15 gu15
          have eu15 := eu14.kept gu15 (by simp; omega)
          have ownu15 := own_below ownu13 (below_kept (grown_below gu14 (Nat.le_refl _) (by simp)) gu15 (Nat.le_of_lt su14) (by rintro q hq; cases hq; exact Nat.le_refl _))
          have bu15 := below_kept bu14 gu15 bu14.size (by rintro q hq; cases hq; omega)
          refine hK _ _ eu15 ?_
          clear hK K
          simp only [Act.put]
          repeat (refine plan_take _ rfl ?_; (first | (refine wpQuiet_valueG (o := ⟨some 31, _, _, _, _, _⟩) rfl _ (by intro _ h; exact exec_load _ 24 _ rfl ⟨w1.heap.size, 0, none⟩ rfl [.slice Af nf mf] h.cells _ Try.underlying24 rfl (by kernel_rfl)) (wpQuiet_nil ?_); simp only [Act.put, List.setIfInBounds_toArray, List.set_cons_zero, List.set_cons_succ]) | (go_big_quiet_step ((intros; rfl)); refine wpQuiet_nil ?_)))
          refine plan_done ?_
          go_wp2_with fail
          go_meet
          exact ⟨_, _, _, _, rfl, rfl, ru15, own_base ownu15 (by omega), szu13, by omega, bu15⟩
        · refine step_at _ rfl fun K hK => ?_
          refine step_alloc rfl _ rfl [.slice none 0 0] (by kernel_rfl) ?_
          intro wu16 ru16 su16 gu16
          have hu16 := grown_below gu16 (Nat.le_refl _) (by simp)
          have zau16 := bu12.size
          have eu16 := eu12.on hu16
          have ou16 := ou12.on hu16
          have bu16 := bu12.trans (hu16.mono bu12.size)
          have zu16 := hu16.size
          refine hK _ _ eu16 ?_
          clear hK K
          simp only [Act.put, List.setIfInBounds_toArray, List.set_cons_zero, List.set_cons_succ]
          refine plan_one _ rfl fun K hK => ?_
          go_simp
          refine (s8_wnone _ Af nf mf ou16).mono ?_
          rintro e wu17 ⟨Au17, nu17, cu17, rfl, ownu17, szu17, hu17⟩
          unfold flv
          have eu17 := eu16.on hu17
          have ou17 := ou16.on hu17
          have rzu17 := ru16.on hu17
          have bu17 := bu16.trans (hu17.mono bu16.size)
          have zu17 := hu17.size
          refine hK _ _ eu17 ?_
          clear hK K
          repeat (refine plan_take _ rfl ?_; (first | (refine wpQuiet_valueG (o := ⟨some 31, _, _, _, _, _⟩) rfl _ (by intro _ h; exact exec_load _ 24 _ rfl ⟨w1.heap.size, 0, none⟩ rfl [.slice Af nf mf] h.cells _ Try.underlying24 rfl (by kernel_rfl)) (wpQuiet_nil ?_); simp only [Act.put, List.setIfInBounds_toArray, List.set_cons_zero, List.set_cons_succ]) | (go_big_quiet_step ((intros; rfl)); refine wpQuiet_nil ?_)))
          refine plan_one _ rfl fun K hK => ?_
          refine step_store_all rfl _ _ _ rfl wu12.heap.size rfl _ _ rzu17 [(.slice Au17 nu17 cu17)] rfl (slice_one _ _ _) rfl (by kernel_rfl) ?_
          intro wu18 ru18 gu18
          have eu18 := eu17.kept gu18 (by simp; omega)
          have ownu18 := own_kept_lt ownu17 gu18 (by omega)
          have bu18 := below_kept bu17 gu18 bu17.size (by rintro q hq; cases hq; omega)
          refine hK _ _ eu18 ?_
          clear hK K
          simp only [Act.put]
          repeat (refine plan_take _ rfl ?_; (first | (refine wpQuiet_valueG (o := ⟨some 31, _, _, _, _, _⟩) rfl _ (by intro _ h; exact exec_load _ 24 _ rfl ⟨w1.heap.size, 0, none⟩ rfl [.slice Af nf mf] h.cells _ Try.underlying24 rfl (by kernel_rfl)) (wpQuiet_nil ?_); simp only [Act.put, List.setIfInBounds_toArray, List.set_cons_zero, List.set_cons_succ]) | (go_big_quiet_step ((intros; rfl)); refine wpQuiet_nil ?_)))
          refine plan_done ?_
          go_wp2_with fail
          go_meet
          exact ⟨_, _, _, _, rfl, rfl, ru18, own_base ownu18 (by omega), szu17, by omega, bu18⟩
      · refine step_at _ rfl fun K hK => ?_
        refine step_alloc rfl _ rfl [.slice none 0 0] (by kernel_rfl) ?_
        intro wu19 ru19 su19 gu19
        have hu19 := grown_below gu19 (Nat.le_refl _) (by simp)
        have zau19 := b0.size
        have eu19 := e0.on hu19
        have ou19 := o0.on hu19
        have bu19 := b0.trans (hu19.mono b0.size)
        have zu19 := hu19.size
        refine hK _ _ eu19 ?_
        clear hK K
        simp only [Act.put, List.setIfInBounds_toArray, List.set_cons_zero, List.set_cons_succ]
        refine plan_one _ rfl fun K hK => ?_
        go_simp
        refine (s8_full7 _).mono ?_
        rintro e wu20 ⟨rfl, hu20⟩
        have eu20 := eu19.on hu20
        have ou20 := ou19.on hu20
        have rzu20 := ru19.on hu20
        have bu20 := bu19.trans (hu20.mono bu19.size)
        have zu20 := hu20.size
        refine hK _ _ eu20 ?_
        clear hK K
        refine plan_one _ rfl fun K hK => ?_
        go_simp
        refine (s8_wnone _ Af nf mf ou20).mono ?_
        rintro e wu21 ⟨Au21, nu21, cu21, rfl, ownu21, szu21, hu21⟩
        unfold flv
        have eu21 := eu20.on hu21
        have ou21 := ou20.on hu21
        have rzu21 := rzu20.on hu21
        have bu21 := bu20.trans (hu21.mono bu20.size)
        have zu21 := hu21.size
        refine hK _ _ eu21 ?_
        clear hK K
        repeat (refine plan_take _ rfl ?_; (first | (refine wpQuiet_valueG (o := ⟨some 31, _, _, _, _, _⟩) rfl _ (by intro _ h; exact exec_load _ 24 _ rfl ⟨w1.heap.size, 0, none⟩ rfl [.slice Af nf mf] h.cells _ Try.underlying24 rfl (by kernel_rfl)) (wpQuiet_nil ?_); simp only [Act.put, List.setIfInBounds_toArray, List.set_cons_zero, List.set_cons_succ]) | (go_big_quiet_step ((intros; rfl)); refine wpQuiet_nil ?_)))
        refine plan_one _ rfl fun K hK => ?_
        refine step_store_all rfl _ _ _ rfl w5.drew.heap.size rfl _ _ rzu21 [(.slice Au21 nu21 cu21)] rfl (slice_one _ _ _) rfl (by kernel_rfl) ?_
        intro wu22 ru22 gu22
        have eu22 := eu21.kept gu22 (by simp; omega)
        have ownu22 := own_kept_lt ownu21 gu22 (by omega)
        have bu22 := below_kept bu21 gu22 bu21.size (by rintro q hq; cases hq; omega)
        refine hK _ _ eu22 ?_
        clear hK K
        simp only [Act.put]
        repeat (refine plan_take _ rfl ?_; (first | (refine wpQuiet_valueG (o := ⟨some 31, _, _, _, _, _⟩) rfl _ (by intro _ h; exact exec_load _ 24 _ rfl ⟨w1.heap.size, 0, none⟩ rfl [.slice Af nf mf] h.cells _ Try.underlying24 rfl (by kernel_rfl)) (wpQuiet_nil ?_); simp only [Act.put, List.setIfInBounds_toArray, List.set_cons_zero, List.set_cons_succ]) | (go_big_quiet_step ((intros; rfl)); refine wpQuiet_nil ?_)))
        refine plan_done ?_
        go_wp2_with fail
        go_meet
        exact ⟨_, _, _, _, rfl, rfl, ru22, own_base ownu22 (by omega), szu21, by omega, bu22⟩
    case rest =>
      revert wc
      intro wc6 hcut
      obtain ⟨g_h, Ah, nh, mh, rfl, rfl, h_6, ownh6, szh6, ggeh, h6⟩ := hcut
      have okh6 := own_flok ownh6 szh6
      have B6 := B5.trans (h6.mono B5.size)
      have okf_6 := okf_5.on h6
      have f_6 := f_5.on h6
      have g_6 := g_5.on h6
      have okg_6 := okg_5.on h6
      clear okf_5 f_5 g_5 okg_5
      have cf := f_6.cell (j := 0) rfl
      have cg := g_6.cell (j := 0) rfl
      have ch := h_6.cell (j := 0) rfl
      go_wp2_with fail
      refine (s8_warg _ Af nf mf okf_6).mono ?_
      rintro e w7 ⟨Ai, ni, mi, rfl, oki7, h7⟩
      have B7 := B6.trans (h7.mono B6.size)
      have okf_7 := okf_6.on h7
      have f_7 := f_6.on h7
      have g_7 := g_6.on h7
      have okg_7 := okg_6.on h7
      have h_7 := h_6.on h7
      have okh_7 := okh6.on h7
      clear okf_6 f_6 g_6 okg_6 h_6
      have cf := f_7.cell (j := 0) rfl
      have cg := g_7.cell (j := 0) rfl
      have ch := h_7.cell (j := 0) rfl
      unfold flv
      go_wp2_with (first
        | (with_reducible refine wpList_alloc_row (o := ⟨some 9, _, _, _, _, _⟩) rfl _ rfl [.slice none 0 0] (by kernel_rfl) ?_; intro w8 r8 s8 g8)
        | ((with_reducible refine wpList_at ⟨none, .store _ (.tmp 9) _, _, _, _, _⟩ ?_); refine wpList_store_all rfl _ _ _ rfl w7.heap.size rfl _ _ r8 [.slice Ai ni mi] rfl (slice_one _ _ _) rfl (by kernel_rfl) ?_; intro w9 i_9 g9; have k9 : Below w7.heap.size w7 w9 := below_kept (grown_below g8 (Nat.le_refl _) (by simp)) g9 (Nat.le_of_lt s8) (by rintro q hq; cases hq; exact Nat.le_refl _); have B9 := B7.trans (k9.mono B7.size); have okf_9 := okf_7.on k9; have f_9 := f_7.on k9; have g_9 := g_7.on k9; have okg_9 := okg_7.on k9; have h_9 := h_7.on k9; have okh_9 := okh_7.on k9; have oki_9 := oki7.on k9; clear okf_7 f_7 g_7 okg_7 h_7 okh_7; have cf := f_9.cell (j := 0) rfl; have cg := g_9.cell (j := 0) rfl; have ch := h_9.cell (j := 0) rfl; have ci := i_9.cell (j := 0) rfl; clear r8 g8 g9))
      refine (s8_rnone _ Af nf mf okf_9).mono ?_
      rintro e w10 ⟨rfl, h10⟩
      have B10 := B9.trans (h10.mono B9.size)
      have okf_10 := okf_9.on h10
      have f_10 := f_9.on h10
      have g_10 := g_9.on h10
      have okg_10 := okg_9.on h10
      have h_10 := h_9.on h10
      have okh_10 := okh_9.on h10
      have oki_10 := oki_9.on h10
      have i_10 := i_9.on h10
      clear okf_9 f_9 g_9 okg_9 h_9 okh_9 oki_9 i_9
      have cf := f_10.cell (j := 0) rfl
      have cg := g_10.cell (j := 0) rfl
      have ch := h_10.cell (j := 0) rfl
      have ci := i_10.cell (j := 0) rfl
      go_wp2_with fail
      refine (s8_big _).mono ?_
      rintro e w11 ⟨Aj, nj, mj, rfl, okj11, h11⟩
      have B11 := B10.trans (h11.mono B10.size)
      have okf_11 := okf_10.on h11
      have f_11 := f_10.on h11
      have g_11 := g_10.on h11
      have okg_11 := okg_10.on h11
      have h_11 := h_10.on h11
      have okh_11 := okh_10.on h11
      have oki_11 := oki_10.on h11
      have i_11 := i_10.on h11
      clear okf_10 f_10 g_10 okg_10 h_10 okh_10 oki_10 i_10
      have cf := f_11.cell (j := 0) rfl
      have cg := g_11.cell (j := 0) rfl
      have ch := h_11.cell (j := 0) rfl
      have ci := i_11.cell (j := 0) rfl
      unfold flv
      go_wp2_with (first
        | (with_reducible refine wpList_alloc_row (o := ⟨some 13, _, _, _, _, _⟩) rfl _ rfl [.slice none 0 0] (by kernel_rfl) ?_; intro w12 r12 s12 g12)
        | ((with_reducible refine wpList_at ⟨none, .store _ (.tmp 13) _, _, _, _, _⟩ ?_); refine wpList_store_all rfl _ _ _ rfl w11.heap.size rfl _ _ r12 [.slice Aj nj mj] rfl (slice_one _ _ _) rfl (by kernel_rfl) ?_; intro w13 j_13 g13; have k13 : Below w11.heap.size w11 w13 := below_kept (grown_below g12 (Nat.le_refl _) (by simp)) g13 (Nat.le_of_lt s12) (by rintro q hq; cases hq; exact Nat.le_refl _); have B13 := B11.trans (k13.mono B11.size); have okf_13 := okf_11.on k13; have f_13 := f_11.on k13; have g_13 := g_11.on k13; have okg_13 := okg_11.on k13; have h_13 := h_11.on k13; have okh_13 := okh_11.on k13; have oki_13 := oki_11.on k13; have i_13 := i_11.on k13; have okj_13 := okj11.on k13; clear okf_11 f_11 g_11 okg_11 h_11 okh_11 oki_11 i_11; have cf := f_13.cell (j := 0) rfl; have cg := g_13.cell (j := 0) rfl; have ch := h_13.cell (j := 0) rfl; have ci := i_13.cell (j := 0) rfl; have cj := j_13.cell (j := 0) rfl; clear r12 g12 g13))
      refine (s8_full0 _).mono ?_
      rintro e w14 ⟨rfl, h14⟩
      have B14 := B13.trans (h14.mono B13.size)
      have okf_14 := okf_13.on h14
      have f_14 := f_13.on h14
      have g_14 := g_13.on h14
      have okg_14 := okg_13.on h14
      have h_14 := h_13.on h14
      have okh_14 := okh_13.on h14
      have oki_14 := oki_13.on h14
      have i_14 := i_13.on h14
      have okj_14 := okj_13.on h14
      have j_14 := j_13.on h14
      clear okf_13 f_13 g_13 okg_13 h_13 okh_13 oki_13 i_13 okj_13 j_13
      have cf := f_14.cell (j := 0) rfl
      have cg := g_14.cell (j := 0) rfl
      have ch := h_14.cell (j := 0) rfl
      have ci := i_14.cell (j := 0) rfl
      have cj := j_14.cell (j := 0) rfl
      go_wp2_with fail
      refine (s8_vg _ Ag ng mg okg_14).mono ?_
      rintro e w15 ⟨rfl, h15⟩
      have B15 := B14.trans (h15.mono B14.size)
      have okf_15 := okf_14.on h15
      have f_15 := f_14.on h15
      have g_15 := g_14.on h15
      have okg_15 := okg_14.on h15
      have h_15 := h_14.on h15
      have okh_15 := okh_14.on h15
      have oki_15 := oki_14.on h15
      have i_15 := i_14.on h15
      have okj_15 := okj_14.on h15
      have j_15 := j_14.on h15
      clear okf_14 f_14 g_14 okg_14 h_14 okh_14 oki_14 i_14 okj_14 j_14
      have cf := f_15.cell (j := 0) rfl
      have cg := g_15.cell (j := 0) rfl
      have ch := h_15.cell (j := 0) rfl
      have ci := i_15.cell (j := 0) rfl
      have cj := j_15.cell (j := 0) rfl
      go_wp2_with fail
      have k16 : Below w15.heap.size w15 (w15.alloc (.cells [.string ⟨#[]⟩].toArray 9)) := (Below.refl _ _).alloc (Nat.le_refl _) _
      have B16 := B15.trans (k16.mono B15.size)
      have okf_16 := okf_15.on k16
      have f_16 := f_15.on k16
      have g_16 := g_15.on k16
      have okg_16 := okg_15.on k16
      have h_16 := h_15.on k16
      have okh_16 := okh_15.on k16
      have oki_16 := oki_15.on k16
      have i_16 := i_15.on k16
      have okj_16 := okj_15.on k16
      have j_16 := j_15.on k16
      clear okf_15 f_15 g_15 okg_15 h_15 okh_15 oki_15 i_15 okj_15 j_15
      have cf := f_16.cell (j := 0) rfl
      have cg := g_16.cell (j := 0) rfl
      have ch := h_16.cell (j := 0) rfl
      have ci := i_16.cell (j := 0) rfl
      have cj := j_16.cell (j := 0) rfl
      refine (s8_vx w15).mono ?_
      rintro e w17 ⟨rfl, h17⟩
      have B17 := B16.trans (h17.mono B16.size)
      have okf_17 := okf_16.on h17
      have f_17 := f_16.on h17
      have g_17 := g_16.on h17
      have okg_17 := okg_16.on h17
      have h_17 := h_16.on h17
      have okh_17 := okh_16.on h17
      have oki_17 := oki_16.on h17
      have i_17 := i_16.on h17
      have okj_17 := okj_16.on h17
      have j_17 := j_16.on h17
      clear okf_16 f_16 g_16 okg_16 h_16 okh_16 oki_16 i_16 okj_16 j_16
      have cf := f_17.cell (j := 0) rfl
      have cg := g_17.cell (j := 0) rfl
      have ch := h_17.cell (j := 0) rfl
      have ci := i_17.cell (j := 0) rfl
      have cj := j_17.cell (j := 0) rfl
      go_wp2_with fail
      refine (s8_sff _ Af nf mf okf_17).mono ?_
      rintro e w18 ⟨rfl, h18⟩
      have B18 := B17.trans (h18.mono B17.size)
      have okf_18 := okf_17.on h18
      have f_18 := f_17.on h18
      have g_18 := g_17.on h18
      have okg_18 := okg_17.on h18
      have h_18 := h_17.on h18
      have okh_18 := okh_17.on h18
      have oki_18 := oki_17.on h18
      have i_18 := i_17.on h18
      have okj_18 := okj_17.on h18
      have j_18 := j_17.on h18
      clear okf_17 f_17 g_17 okg_17 h_17 okh_17 oki_17 i_17 okj_17 j_17
      have cf := f_18.cell (j := 0) rfl
      have cg := g_18.cell (j := 0) rfl
      have ch := h_18.cell (j := 0) rfl
      have ci := i_18.cell (j := 0) rfl
      have cj := j_18.cell (j := 0) rfl
      go_wp2_with fail
      refine (s8_sfg _ Af nf mf okf_18 Ag ng mg okg_18).mono ?_
      rintro e w19 ⟨rfl, h19⟩
      have B19 := B18.trans (h19.mono B18.size)
      have okf_19 := okf_18.on h19
      have f_19 := f_18.on h19
      have g_19 := g_18.on h19
      have okg_19 := okg_18.on h19
      have h_19 := h_18.on h19
      have okh_19 := okh_18.on h19
      have oki_19 := oki_18.on h19
      have i_19 := i_18.on h19
      have okj_19 := okj_18.on h19
      have j_19 := j_18.on h19
      clear okf_18 f_18 g_18 okg_18 h_18 okh_18 oki_18 i_18 okj_18 j_18
      have cf := f_19.cell (j := 0) rfl
      have cg := g_19.cell (j := 0) rfl
      have ch := h_19.cell (j := 0) rfl
      have ci := i_19.cell (j := 0) rfl
      have cj := j_19.cell (j := 0) rfl
      go_wp2_with fail
      go_ret
      exact ⟨rfl, B19⟩
end Go.Proofs.Ytlllllcmbnmmkaa
