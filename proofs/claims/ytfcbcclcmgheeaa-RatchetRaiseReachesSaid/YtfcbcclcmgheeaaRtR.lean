/-
  What the reference's Cur does over a log: contracts by walks. Condition: bounded lengths.
-/
import Derived.Test.YtfcbcclcmgheeaaRtW
set_option linter.unusedSimpArgs false
set_option linter.unusedVariables false
namespace Go.Proofs.Ytfcbcclcmgheeaa
open Go.RowKit

/-- A step program's state: its log, how far it is, what it asks, whether it stands. -/
structure Cu where
  A : Option Addr
  n : Nat
  d : Nat
  i : Nat
  a : DvA
  st : Bool
def Cu.cs (c : Cu) : List Value := .slice c.A c.n c.d :: .int .i64 (c.i : Int) :: (c.a.cs ++ (.bool c.st :: .bool false :: .slice none 0 0 :: .slice none 0 0 :: (List.replicate 16 (.int .u8 0) ++ [.slice none 0 0, .bool false])))
theorem Cu.cs_one (c : Cu) : ∀ u ∈ c.cs, u.oneCell' = true := by
  intro u hu
  unfold Cu.cs DvA.cs at hu
  simp [List.replicate] at hu
  rcases hu with h | h | h | h | h | h | h | h | h | h | h | h <;> subst h <;> rfl
/-- The state's block may change, and what is new. -/
def GivesC (g : Nat) (c : Cu) (r : Value) (w : World) (e : Ending) (w' : World) : Prop := e = .returned r ∧ Row w' g 67 c.cs ∧ w.grownBy w' (some g)
/-- One access: the new state and the logged result. -/
def cuDo (c : Cu) (l : List DvR) (a : DvA) : Cu × DvR :=
  if c.st then (c, ⟨0, noB⟩) else if c.n ≤ c.i then ({ c with a := a, st := true }, ⟨0, noB⟩) else ({ c with i := c.i + 1 }, l.getD c.i ⟨0, noB⟩)
theorem load_rs11 {w : World} {g : Nat} {e : TypeId} {a : DvR} (hr : Row w g e a.cs) : (loadVar 78 ⟨g, 0, none⟩).run Try.prog w = .ok a.v w := run_loadVar_at (P := Try.prog) w _ ⟨g, 0, none⟩ a.cs hr.cells _ Try.underlying78 rfl (by kernel_rfl)
set_option maxRecDepth 100000 in
set_option maxHeartbeats 4000000 in
theorem cdo_any (g : Nat) (A : Option Addr) (n d i : Nat) (a0 : DvA) (st : Bool) (l : List DvR) (a : DvA) (w : World) (hrow : Row w g 67 (⟨A, n, d, i, a0, st⟩ : Cu).cs) (hr : Reads w w.heap.size 2 A n (rrs l)) (hA : 0 < n → ∀ ad, A = some ad → ad.block ≠ g) (hi : i ≤ 100000) (hn : n ≤ 100000) :
    Calls Try.prog 43 #[.pointer (some ⟨g, 0, none⟩), a.v] w (GivesC g (cuDo ⟨A, n, d, i, a0, st⟩ l a).1 (cuDo ⟨A, n, d, i, a0, st⟩ l a).2.v w) := by
  cases st with
  | true =>
    have hlc := hrow.lt
    have crc6 := hrow.cell (j := 6) rfl
    have crc7 := hrow.cell (j := 7) rfl
    go_enter Try.func43, Try.ntmps43
    go_wp2_with (first
      | ((with_reducible refine wpList_at ⟨some 3, _, _, _, _, _⟩ ?_); refine wpList_box_row rfl _ _ rfl (a.cs) rfl ?_; intro w1 ra_1 s1 g1; have k1 : Below w.heap.size w w1 := grown_below g1 (Nat.le_refl _) (by simp); have B1 : Below w.heap.size w w1 := k1; have rc_1 := hrow.on k1; have crc0 := rc_1.cell (j := 0) rfl; have crc1 := rc_1.cell (j := 1) rfl; have crc6 := rc_1.cell (j := 6) rfl; have crc7 := rc_1.cell (j := 7) rfl)
      | (with_reducible refine wpList_alloc_row (o := ⟨some 4, _, _, _, _, _⟩) rfl _ rfl zeroR zero_rs ?_; intro w2 z4_2 s2 g2; have k2 : Below w1.heap.size w1 w2 := grown_below g2 (Nat.le_refl _) (by simp); have B2 := B1.trans (k2.mono B1.size); have rc_2 := rc_1.on k2; have ra_2 := ra_1.on k2; clear rc_1 ra_1; have crc0 := rc_2.cell (j := 0) rfl; have crc1 := rc_2.cell (j := 1) rfl; have crc6 := rc_2.cell (j := 6) rfl; have crc7 := rc_2.cell (j := 7) rfl)
      | ((with_reducible refine wpList_at ⟨none, .store _ (.tmp 4) _, _, _, _, _⟩ ?_); refine wpList_store_all rfl _ _ _ rfl (w1.heap.size) rfl _ _ z4_2 ((⟨0, noB⟩ : DvR).cs) rfl ((⟨0, noB⟩ : DvR).cs_one) rfl (by kernel_rfl) ?_; intro w3 z4_3 g3; have rc_3 := rc_2.kept g3 (by simp; omega); have ra_3 := ra_2.kept g3 (by simp; omega); have B3 := below_kept B2 g3 B2.size (by rintro q hq; cases hq; omega); have sz3 := g3.size; clear rc_2 ra_2; have crc0 := rc_3.cell (j := 0) rfl; have crc1 := rc_3.cell (j := 1) rfl; have crc6 := rc_3.cell (j := 6) rfl; have crc7 := rc_3.cell (j := 7) rfl))
    exact bodyPost_ret (results_cell1 Try.results43 _ _ _ _ rfl (load_rs11 (a := ⟨0, noB⟩) z4_3)) rfl ⟨rfl, rc_3, below_grownBy B3 _⟩
  | false =>
    have hlc := hrow.lt
    by_cases hend : n ≤ i
    · have HE : Hid (cuDo ⟨A, n, d, i, a0, false⟩ l a = (⟨A, n, d, i, a, true⟩, ⟨0, noB⟩)) := Lib.hid (by unfold cuDo; simp only; rw [if_neg (by decide), if_pos hend])
      rw [HE.out]
      clear HE
      go_enter Try.func43, Try.ntmps43
      go_wp2_with (first
        | ((with_reducible refine wpList_at ⟨some 3, _, _, _, _, _⟩ ?_); refine wpList_box_row rfl _ _ rfl (a.cs) rfl ?_; intro w1 ra_1 s1 g1; have k1 : Below w.heap.size w w1 := grown_below g1 (Nat.le_refl _) (by simp); have B1 : Below w.heap.size w w1 := k1; have rc_1 := hrow.on k1; have lr_1 := hr.on k1; have crc0 := rc_1.cell (j := 0) rfl; have crc1 := rc_1.cell (j := 1) rfl; have crc6 := rc_1.cell (j := 6) rfl; have crc7 := rc_1.cell (j := 7) rfl)
        | (with_reducible refine wpList_alloc_row (o := ⟨some 4, _, _, _, _, _⟩) rfl _ rfl zeroR zero_rs ?_; intro w2 z4_2 s2 g2; have k2 : Below w1.heap.size w1 w2 := grown_below g2 (Nat.le_refl _) (by simp); have B2 := B1.trans (k2.mono B1.size); have rc_2 := rc_1.on k2; have lr_2 := lr_1.on k2; have ra_2 := ra_1.on k2; clear rc_1 lr_1 ra_1; have crc0 := rc_2.cell (j := 0) rfl; have crc1 := rc_2.cell (j := 1) rfl; have crc6 := rc_2.cell (j := 6) rfl; have crc7 := rc_2.cell (j := 7) rfl))
      go_quiet (fail)
      have rcq := rc_2.drewN nq
      have raq := ra_2.drewN nq
      have z4q := z4_2.drewN nq
      have Bq := below_drewN B2 nq
      have hgq : w.grownBy (w2.drewN nq) (some g) := grown_drewN (below_grownBy B2 (some g)) nq
      have szq : (w2.drewN nq).heap.size = w2.heap.size := rfl
      go_wp2_with (first
        | ((with_reducible refine wpList_at ⟨none, .store _ (.tmp 29) _, _, _, _, _⟩ ?_); refine wpList_store_elem rfl _ _ _ rfl g 6 rfl _ _ rcq (.bool true) rfl rfl (by show 6 < 28; omega) (by kernel_rfl) ?_; intro wa rca ga; have zaa := z4q.kept ga (by simp; omega); have raa := raq.kept ga (by simp; omega))
        | ((with_reducible refine wpList_at ⟨some 31, _, _, _, _, _⟩ ?_); refine wpList_valueG rfl _ (by exact exec_loadA _ _ rfl (w.heap.size) rfl a raa) ?_)
        | ((with_reducible refine wpList_at ⟨none, .store _ (.tmp 33) _, _, _, _, _⟩ ?_); refine wpList_store_part rfl _ _ _ rfl g 2 rfl _ _ rca a.cs rfl (a.cs_one) (by show 2 + 4 ≤ 28; omega) (by kernel_rfl) ?_; intro wb rcb gb; have zab := zaa.kept gb (by simp; omega))
        | ((with_reducible refine wpList_at ⟨none, .store _ (.tmp 4) _, _, _, _, _⟩ ?_); refine wpList_store_all rfl _ _ _ rfl (w1.heap.size) rfl _ _ zab ((⟨0, noB⟩ : DvR).cs) rfl (DvR.cs_one _) rfl (by kernel_rfl) ?_; intro wc zac gc; have rcc := rcb.kept gc (by simp; omega)))
      exact bodyPost_ret (results_cell1 Try.results43 _ _ _ _ rfl (load_rs11 (a := ⟨0, noB⟩) zac)) rfl ⟨rfl, rcc, grown_new (grown_trans (grown_trans hgq ga) gb) gc (by omega)⟩
    obtain ⟨r, hri⟩ : ∃ r, l[i]? = some r := ⟨_, List.getElem?_eq_getElem (by rw [hr.len_of (by decide) DvR.cs_len]; omega)⟩
    obtain ⟨ad, rfl, hlta, hc⟩ := hr.elem DvR.cs_len hri (by omega)
    have HCC := Lib.hid hc
    have hag := hA (by omega) ad rfl
    have hadlt := hlta
    have HE : Hid (cuDo ⟨some ad, n, d, i, a0, false⟩ l a = (⟨some ad, n, d, i + 1, a0, false⟩, r)) := Lib.hid (by unfold cuDo; simp only; rw [if_neg (by decide), if_neg hend, List.getD, hri]; rfl)
    rw [HE.out]
    clear HE hri hc hA
    go_enter Try.func43, Try.ntmps43
    go_wp2_with (first
      | ((with_reducible refine wpList_at ⟨some 3, _, _, _, _, _⟩ ?_); refine wpList_box_row rfl _ _ rfl (a.cs) rfl ?_; intro w3 ra_3 s3 g3; have k3 : Below w.heap.size w w3 := grown_below g3 (Nat.le_refl _) (by simp); have B3 : Below w.heap.size w w3 := k3; have rc_3 := hrow.on k3; have lr_3 := hr.on k3; have crc0 := rc_3.cell (j := 0) rfl; have crc1 := rc_3.cell (j := 1) rfl; have crc6 := rc_3.cell (j := 6) rfl; have crc7 := rc_3.cell (j := 7) rfl)
      | (with_reducible refine wpList_alloc_row (o := ⟨some 4, _, _, _, _, _⟩) rfl _ rfl zeroR zero_rs ?_; intro w4 z4_4 s4 g4; have k4 : Below w3.heap.size w3 w4 := grown_below g4 (Nat.le_refl _) (by simp); have B4 := B3.trans (k4.mono B3.size); have rc_4 := rc_3.on k4; have lr_4 := lr_3.on k4; have ra_4 := ra_3.on k4; clear rc_3 lr_3 ra_3; have crc0 := rc_4.cell (j := 0) rfl; have crc1 := rc_4.cell (j := 1) rfl; have crc6 := rc_4.cell (j := 6) rfl; have crc7 := rc_4.cell (j := 7) rfl))
    go_quiet (fail)
    have rcq := rc_4.drewN nq
    have raq := ra_4.drewN nq
    have z4q := z4_4.drewN nq
    have Bq := below_drewN B4 nq
    have hgq : w.grownBy (w4.drewN nq) (some g) := grown_drewN (below_grownBy B4 (some g)) nq
    have szq : (w4.drewN nq).heap.size = w4.heap.size := rfl
    have crq1 := rcq.cell (j := 1) rfl
    go_wp2_with ((with_reducible refine wpList_at ⟨none, .store _ (.tmp 41) _, _, _, _, _⟩ ?_); refine wpList_store_elem rfl _ _ _ rfl g 1 rfl _ _ rcq (.int .i64 ((i : Int) + 1)) rfl rfl (by show 1 < 28; omega) (by kernel_rfl) ?_; intro wa rca0 ga; have zaa := z4q.kept ga (by simp; omega); have rca : Row wa g 67 (⟨some ad, n, d, i + 1, a0, false⟩ : Cu).cs := rca0; have cra0 := rca.cell (j := 0) rfl; have cra1 := rca.cell (j := 1) rfl; have hca : ∀ j u, r.cs[j]? = some u → wa.cell? ((ad.add (i * 2)).add j) = some u := fun j u hu => (World.cell?_of_block (ga.block _ (by rw [block_of_add, block_of_add]; omega) (by rw [block_of_add, block_of_add]; simp; omega))).trans ((Bq.cell (by rw [block_of_add, block_of_add]; exact hlta)).trans (HCC.out j u hu)))
    have hga := grown_trans hgq ga
    try simp only [Act.put, List.setIfInBounds_toArray, List.set_cons_zero, List.set_cons_succ]
    have rcd := rca.drew
    have zad := zaa.drew
    have hcd : ∀ j u, r.cs[j]? = some u → wa.drew.cell? ((ad.add (i * 2)).add j) = some u := hca
    refine wp_region_plan (fun w' => Row w' g 67 (⟨some ad, n, d, i + 1, a0, false⟩ : Cu).cs ∧ ∀ j u, r.cs[j]? = some u → w'.cell? ((ad.add (i * 2)).add j) = some u) (.take 0 <| .take 4 <| .two 1 (.take 2 <| .take 3 <| .one 5 <| .take 6 <| .take 7 <| .take 8 <| .take 9 <| .take 10 <| .one 11 <| .done) 5 (.take 6 <| .take 7 <| .take 8 <| .one 1 <| .take 2 <| .take 3 <| .take 9 <| .take 10 <| .one 11 <| .done)) (by kernel_rfl) (by kernel_rfl) (by kernel_rfl) (fun _ _ _ _ _ h => h) ⟨rcd, hcd⟩ ?_
    repeat (refine plan_take _ rfl ?_; (first | ((with_reducible refine wpQuiet_at ⟨some 45, _, _, _, _, _⟩ ?_); refine wpQuiet_valueG rfl _ (by intro _ hS; exact exec_load1 _ 22 _ rfl ⟨g, 0, none⟩ rfl _ (hS.1.cell (j := 0) rfl) _ Try.underlying22 rfl) (wpQuiet_nil ?_); simp only [Act.put, List.setIfInBounds_toArray, List.set_cons_zero, List.set_cons_succ]) | ((with_reducible refine wpQuiet_at ⟨some 49, _, _, _, _, _⟩ ?_); refine wpQuiet_valueG rfl _ (by intro _ hS; exact exec_load1 _ 3 _ rfl ⟨g, 1, none⟩ rfl _ (hS.1.cell (j := 1) rfl) _ Try.underlying3 rfl) (wpQuiet_nil ?_); simp only [Act.put, List.setIfInBounds_toArray, List.set_cons_zero, List.set_cons_succ]) | ((with_reducible refine wpQuiet_at ⟨some 52, _, _, _, _, _⟩ ?_); refine wpQuiet_valueG rfl _ (by intro _ hS; exact exec_load _ 78 _ rfl (ad.add (i * 2)) rfl r.cs hS.2 _ Try.underlying78 rfl (by kernel_rfl)) (wpQuiet_nil ?_); simp only [Act.put, List.setIfInBounds_toArray, List.set_cons_zero, List.set_cons_succ]) | (go_big_quiet_step ((intros; rfl)); refine wpQuiet_nil ?_)))
    refine plan_two ?_ ?_
    · refine step_at _ rfl fun K hK => ?_
      go_simp
      refine hK _ _ ⟨rcd, hcd⟩ ?_
      clear hK K
      repeat (refine plan_take _ rfl ?_; (first | ((with_reducible refine wpQuiet_at ⟨some 45, _, _, _, _, _⟩ ?_); refine wpQuiet_valueG rfl _ (by intro _ hS; exact exec_load1 _ 22 _ rfl ⟨g, 0, none⟩ rfl _ (hS.1.cell (j := 0) rfl) _ Try.underlying22 rfl) (wpQuiet_nil ?_); simp only [Act.put, List.setIfInBounds_toArray, List.set_cons_zero, List.set_cons_succ]) | ((with_reducible refine wpQuiet_at ⟨some 49, _, _, _, _, _⟩ ?_); refine wpQuiet_valueG rfl _ (by intro _ hS; exact exec_load1 _ 3 _ rfl ⟨g, 1, none⟩ rfl _ (hS.1.cell (j := 1) rfl) _ Try.underlying3 rfl) (wpQuiet_nil ?_); simp only [Act.put, List.setIfInBounds_toArray, List.set_cons_zero, List.set_cons_succ]) | ((with_reducible refine wpQuiet_at ⟨some 52, _, _, _, _, _⟩ ?_); refine wpQuiet_valueG rfl _ (by intro _ hS; exact exec_load _ 78 _ rfl (ad.add (i * 2)) rfl r.cs hS.2 _ Try.underlying78 rfl (by kernel_rfl)) (wpQuiet_nil ?_); simp only [Act.put, List.setIfInBounds_toArray, List.set_cons_zero, List.set_cons_succ]) | (go_big_quiet_step ((intros; rfl)); refine wpQuiet_nil ?_)))
      refine plan_one _ rfl fun K hK => ?_
      go_simp
      refine hK _ _ ⟨rcd, hcd⟩ ?_
      clear hK K
      repeat (refine plan_take _ rfl ?_; (first | ((with_reducible refine wpQuiet_at ⟨some 45, _, _, _, _, _⟩ ?_); refine wpQuiet_valueG rfl _ (by intro _ hS; exact exec_load1 _ 22 _ rfl ⟨g, 0, none⟩ rfl _ (hS.1.cell (j := 0) rfl) _ Try.underlying22 rfl) (wpQuiet_nil ?_); simp only [Act.put, List.setIfInBounds_toArray, List.set_cons_zero, List.set_cons_succ]) | ((with_reducible refine wpQuiet_at ⟨some 49, _, _, _, _, _⟩ ?_); refine wpQuiet_valueG rfl _ (by intro _ hS; exact exec_load1 _ 3 _ rfl ⟨g, 1, none⟩ rfl _ (hS.1.cell (j := 1) rfl) _ Try.underlying3 rfl) (wpQuiet_nil ?_); simp only [Act.put, List.setIfInBounds_toArray, List.set_cons_zero, List.set_cons_succ]) | ((with_reducible refine wpQuiet_at ⟨some 52, _, _, _, _, _⟩ ?_); refine wpQuiet_valueG rfl _ (by intro _ hS; exact exec_load _ 78 _ rfl (ad.add (i * 2)) rfl r.cs hS.2 _ Try.underlying78 rfl (by kernel_rfl)) (wpQuiet_nil ?_); simp only [Act.put, List.setIfInBounds_toArray, List.set_cons_zero, List.set_cons_succ]) | (go_big_quiet_step ((intros; rfl)); refine wpQuiet_nil ?_)))
      refine plan_one _ rfl fun K hK => ?_
      refine step_store_all rfl _ _ _ rfl (w3.heap.size) rfl _ _ zad (r.cs) rfl (r.cs_one) rfl (by kernel_rfl) ?_
      intro we zae ge
      have rce := rcd.kept ge (by simp; omega)
      have hce : ∀ j u, r.cs[j]? = some u → we.cell? ((ad.add (i * 2)).add j) = some u := fun j u hu => (World.cell?_of_block (ge.block _ (by rw [block_of_add, block_of_add]; have := ga.size; have := hadlt; show ad.block < wa.heap.size; omega) (by rw [block_of_add, block_of_add]; simp; omega))).trans (hcd j u hu)
      refine hK _ _ ⟨rce, hce⟩ ?_
      clear hK K
      simp only [Act.put, List.setIfInBounds_toArray, List.set_cons_zero, List.set_cons_succ]
      refine plan_done ?_
      go_wp2_with fail
      exact bodyPost_ret (results_cell1 Try.results43 _ _ _ _ rfl (load_rs11 (a := r) zae)) rfl ⟨rfl, rce, grown_new (grown_drewN hga 1) ge (by omega)⟩
    · refine step_at _ rfl fun K hK => ?_
      go_simp
      refine hK _ _ ⟨rcd, hcd⟩ ?_
      clear hK K
      repeat (refine plan_take _ rfl ?_; (first | ((with_reducible refine wpQuiet_at ⟨some 45, _, _, _, _, _⟩ ?_); refine wpQuiet_valueG rfl _ (by intro _ hS; exact exec_load1 _ 22 _ rfl ⟨g, 0, none⟩ rfl _ (hS.1.cell (j := 0) rfl) _ Try.underlying22 rfl) (wpQuiet_nil ?_); simp only [Act.put, List.setIfInBounds_toArray, List.set_cons_zero, List.set_cons_succ]) | ((with_reducible refine wpQuiet_at ⟨some 49, _, _, _, _, _⟩ ?_); refine wpQuiet_valueG rfl _ (by intro _ hS; exact exec_load1 _ 3 _ rfl ⟨g, 1, none⟩ rfl _ (hS.1.cell (j := 1) rfl) _ Try.underlying3 rfl) (wpQuiet_nil ?_); simp only [Act.put, List.setIfInBounds_toArray, List.set_cons_zero, List.set_cons_succ]) | ((with_reducible refine wpQuiet_at ⟨some 52, _, _, _, _, _⟩ ?_); refine wpQuiet_valueG rfl _ (by intro _ hS; exact exec_load _ 78 _ rfl (ad.add (i * 2)) rfl r.cs hS.2 _ Try.underlying78 rfl (by kernel_rfl)) (wpQuiet_nil ?_); simp only [Act.put, List.setIfInBounds_toArray, List.set_cons_zero, List.set_cons_succ]) | (go_big_quiet_step ((intros; rfl)); refine wpQuiet_nil ?_)))
      refine plan_one _ rfl fun K hK => ?_
      go_simp
      refine hK _ _ ⟨rcd, hcd⟩ ?_
      clear hK K
      repeat (refine plan_take _ rfl ?_; (first | ((with_reducible refine wpQuiet_at ⟨some 45, _, _, _, _, _⟩ ?_); refine wpQuiet_valueG rfl _ (by intro _ hS; exact exec_load1 _ 22 _ rfl ⟨g, 0, none⟩ rfl _ (hS.1.cell (j := 0) rfl) _ Try.underlying22 rfl) (wpQuiet_nil ?_); simp only [Act.put, List.setIfInBounds_toArray, List.set_cons_zero, List.set_cons_succ]) | ((with_reducible refine wpQuiet_at ⟨some 49, _, _, _, _, _⟩ ?_); refine wpQuiet_valueG rfl _ (by intro _ hS; exact exec_load1 _ 3 _ rfl ⟨g, 1, none⟩ rfl _ (hS.1.cell (j := 1) rfl) _ Try.underlying3 rfl) (wpQuiet_nil ?_); simp only [Act.put, List.setIfInBounds_toArray, List.set_cons_zero, List.set_cons_succ]) | ((with_reducible refine wpQuiet_at ⟨some 52, _, _, _, _, _⟩ ?_); refine wpQuiet_valueG rfl _ (by intro _ hS; exact exec_load _ 78 _ rfl (ad.add (i * 2)) rfl r.cs hS.2 _ Try.underlying78 rfl (by kernel_rfl)) (wpQuiet_nil ?_); simp only [Act.put, List.setIfInBounds_toArray, List.set_cons_zero, List.set_cons_succ]) | (go_big_quiet_step ((intros; rfl)); refine wpQuiet_nil ?_)))
      refine plan_one _ rfl fun K hK => ?_
      refine step_store_all rfl _ _ _ rfl (w3.heap.size) rfl _ _ zad (r.cs) rfl (r.cs_one) rfl (by kernel_rfl) ?_
      intro we zae ge
      have rce := rcd.kept ge (by simp; omega)
      have hce : ∀ j u, r.cs[j]? = some u → we.cell? ((ad.add (i * 2)).add j) = some u := fun j u hu => (World.cell?_of_block (ge.block _ (by rw [block_of_add, block_of_add]; have := ga.size; have := hadlt; show ad.block < wa.heap.size; omega) (by rw [block_of_add, block_of_add]; simp; omega))).trans (hcd j u hu)
      refine hK _ _ ⟨rce, hce⟩ ?_
      clear hK K
      simp only [Act.put, List.setIfInBounds_toArray, List.set_cons_zero, List.set_cons_succ]
      refine plan_done ?_
      go_wp2_with fail
      exact bodyPost_ret (results_cell1 Try.results43 _ _ _ _ rfl (load_rs11 (a := r) zae)) rfl ⟨rfl, rce, grown_new (grown_drewN hga 1) ge (by omega)⟩
end Go.Proofs.Ytfcbcclcmgheeaa
