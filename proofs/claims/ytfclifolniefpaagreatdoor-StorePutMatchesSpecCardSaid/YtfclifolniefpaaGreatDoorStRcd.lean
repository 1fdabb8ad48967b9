/-
  What the reference's Cur does over a log: contracts by walks. Condition: bounded lengths.
-/
import Derived.Test.YtfclifolniefpaaGreatDoorStRb
import Derived.Test.YtfclifolniefpaaGreatDoorStFH
import Derived.Test.YtfclifolniefpaaGreatDoorStS
import Derived.Deep.LoopGhost
set_option linter.unusedSimpArgs false
set_option linter.unusedVariables false
namespace Go.Proofs.YtfclifolniefpaaGreatDoor
open Go.RowKit

/-- A step program's state: its log, how far it is, what it asks, whether it stands. -/
structure Cu where
  A : Option Addr
  n : Nat
  d : Nat
  i : Nat
  a : StA
  st : Bool
def Cu.cs (c : Cu) : List Value := .slice c.A c.n c.d :: .int .i64 (c.i : Int) :: (c.a.cs ++ (.bool c.st :: .bool false :: .slice none 0 0 :: .slice none 0 0 :: (List.replicate 16 (.int .u8 0) ++ [.slice none 0 0, .bool false])))
theorem Cu.cs_one (c : Cu) : ∀ u ∈ c.cs, u.oneCell' = true := by
  intro u hu
  unfold Cu.cs StA.cs at hu
  simp [List.replicate] at hu
  rcases hu with h | h | h | h | h | h | h | h | h | h | h | h <;> subst h <;> rfl
theorem grown_trans {w w1 w2 : World} {row : Option Nat} (h : w.grownBy w1 row) (k : w1.grownBy w2 row) : w.grownBy w2 row :=
  ⟨k.os.trans h.os, k.tape.trans h.tape, k.output.trans h.output, Nat.le_trans h.size k.size, fun b hb hne => (k.block b (Nat.lt_of_lt_of_le hb h.size) hne).trans (h.block b hb hne)⟩
/-- The state's block may change, and what is new. -/
def GivesC (g : Nat) (c : Cu) (r : Value) (w : World) (e : Ending) (w' : World) : Prop := e = .returned r ∧ Row w' g 68 c.cs ∧ w.grownBy w' (some g)
theorem grown_drewN {w w1 : World} {row : Option Nat} (h : w.grownBy w1 row) (k : Nat) : w.grownBy (w1.drewN k) row := ⟨h.os, h.tape, h.output, h.size, h.block⟩
theorem grown_new {w w1 w2 : World} {row : Option Nat} {b : Nat} (h : w.grownBy w1 row) (k : w1.grownBy w2 (some b)) (hb : w.heap.size ≤ b) : w.grownBy w2 row :=
  ⟨k.os.trans h.os, k.tape.trans h.tape, k.output.trans h.output, Nat.le_trans h.size k.size, fun q hq hne => (k.block q (Nat.lt_of_lt_of_le hq h.size) (by simp; omega)).trans (h.block q hq hne)⟩
theorem Reads.keptG {w w' : World} {g size n : Nat} {A : Option Addr} {xs : List Value} (h : Reads w w.heap.size size A n xs) (hg : w.grownBy w' (some g)) (hA : 0 < n → ∀ ad, A = some ad → ad.block ≠ g) : Reads w' w'.heap.size size A n xs :=
  ⟨h.1, fun h0 => by
    obtain ⟨ad, e, hb, hc⟩ := h.2 h0
    refine ⟨ad, e, Nat.lt_of_lt_of_le hb hg.size, fun j u hu => (World.cell?_of_block (hg.block (ad.add j).block (by rw [block_of_add]; exact hb) (fun e' => ?_))).trans (hc j u hu)⟩
    rw [block_of_add] at e'
    cases e'
    exact hA h0 ad e rfl⟩
/-- One access: the new state and the logged result. -/
def cuDo (c : Cu) (l : List StR) (a : StA) : Cu × StR :=
  if c.st then (c, ⟨0, em⟩) else if c.n ≤ c.i then ({ c with a := a, st := true }, ⟨0, em⟩) else ({ c with i := c.i + 1 }, l.getD c.i ⟨0, em⟩)
theorem load_rs10 {w : World} {g : Nat} {e : TypeId} {a : StR} (hr : Row w g e a.cs) : (loadVar 37 ⟨g, 0, none⟩).run Tryz.prog w = .ok a.v w := run_loadVar_at (P := Tryz.prog) w _ ⟨g, 0, none⟩ a.cs hr.cells _ Tryz.underlying37 rfl (by kernel_rfl)
set_option maxRecDepth 100000 in
set_option maxHeartbeats 4000000 in
theorem cdo_any (g : Nat) (A : Option Addr) (n d i : Nat) (a0 : StA) (st : Bool) (l : List StR) (a : StA) (w : World) (hrow : Row w g 68 (⟨A, n, d, i, a0, st⟩ : Cu).cs) (hr : Reads w w.heap.size 2 A n (rcs l)) (hA : 0 < n → ∀ ad, A = some ad → ad.block ≠ g) (hi : i ≤ 100000) (hn : n ≤ 100000) :
    Calls Tryz.prog 66 #[.pointer (some ⟨g, 0, none⟩), a.v] w (GivesC g (cuDo ⟨A, n, d, i, a0, st⟩ l a).1 (cuDo ⟨A, n, d, i, a0, st⟩ l a).2.v w) := by
  cases st with
  | true =>
    have hlc := hrow.lt
    have crc6 := hrow.cell (j := 6) rfl
    have crc7 := hrow.cell (j := 7) rfl
    go_enter Tryz.func66, Tryz.ntmps66
    go_wp2_with (first
      | ((with_reducible refine wpList_at ⟨some 3, _, _, _, _, _⟩ ?_); refine wpList_box_row rfl _ _ rfl (a.cs) rfl ?_; intro w1 ra_1 s1 g1; have k1 : Below w.heap.size w w1 := grown_below g1 (Nat.le_refl _) (by simp); have B1 : Below w.heap.size w w1 := k1; have rc_1 := hrow.on k1; have crc0 := rc_1.cell (j := 0) rfl; have crc1 := rc_1.cell (j := 1) rfl; have crc6 := rc_1.cell (j := 6) rfl; have crc7 := rc_1.cell (j := 7) rfl)
      | (with_reducible refine wpList_alloc_row (o := ⟨some 4, _, _, _, _, _⟩) rfl _ rfl zeroR zero_rs ?_; intro w2 z4_2 s2 g2; have k2 : Below w1.heap.size w1 w2 := grown_below g2 (Nat.le_refl _) (by simp); have B2 := B1.trans (k2.mono B1.size); have rc_2 := rc_1.on k2; have ra_2 := ra_1.on k2; clear rc_1 ra_1; have crc0 := rc_2.cell (j := 0) rfl; have crc1 := rc_2.cell (j := 1) rfl; have crc6 := rc_2.cell (j := 6) rfl; have crc7 := rc_2.cell (j := 7) rfl)
      | ((with_reducible refine wpList_at ⟨none, .store _ (.tmp 4) _, _, _, _, _⟩ ?_); refine wpList_store_all rfl _ _ _ rfl (w1.heap.size) rfl _ _ z4_2 ((⟨0, em⟩ : StR).cs) rfl ((⟨0, em⟩ : StR).cs_one) rfl (by kernel_rfl) ?_; intro w3 z4_3 g3; have rc_3 := rc_2.kept g3 (by simp; omega); have ra_3 := ra_2.kept g3 (by simp; omega); have B3 := below_kept B2 g3 B2.size (by rintro q hq; cases hq; omega); have sz3 := g3.size; clear rc_2 ra_2; have crc0 := rc_3.cell (j := 0) rfl; have crc1 := rc_3.cell (j := 1) rfl; have crc6 := rc_3.cell (j := 6) rfl; have crc7 := rc_3.cell (j := 7) rfl))
    exact bodyPost_ret (results_cell1 Tryz.results66 _ _ _ _ rfl (load_rs10 (a := ⟨0, em⟩) z4_3)) rfl ⟨rfl, rc_3, below_grownBy B3 _⟩
  | false =>
    have hlc := hrow.lt
    by_cases hend : n ≤ i
    · have HE : Hid (cuDo ⟨A, n, d, i, a0, false⟩ l a = (⟨A, n, d, i, a, true⟩, ⟨0, em⟩)) := Lib.hid (by unfold cuDo; simp only; rw [if_neg (by decide), if_pos hend])
      rw [HE.out]
      clear HE
      go_enter Tryz.func66, Tryz.ntmps66
      go_wp2_with (first
        | ((with_reducible refine wpList_at ⟨some 3, _, _, _, _, _⟩ ?_); refine wpList_box_row rfl _ _ rfl (a.cs) rfl ?_; intro w1 ra_1 s1 g1; have k1 : Below w.heap.size w w1 := grown_below g1 (Nat.le_refl _) (by simp); have B1 : Below w.heap.size w w1 := k1; have rc_1 := hrow.on k1; have lr_1 := hr.on k1; have crc0 := rc_1.cell (j := 0) rfl; have crc1 := rc_1.cell (j := 1) rfl; have crc6 := rc_1.cell (j := 6) rfl; have crc7 := rc_1.cell (j := 7) rfl)
        | (with_reducible refine wpList_alloc_row (o := ⟨some 4, _, _, _, _, _⟩) rfl _ rfl zeroR zero_rs ?_; intro w2 z4_2 s2 g2; have k2 : Below w1.heap.size w1 w2 := grown_below g2 (Nat.le_refl _) (by simp); have B2 := B1.trans (k2.mono B1.size); have rc_2 := rc_1.on k2; have lr_2 := lr_1.on k2; have ra_2 := ra_1.on k2; clear rc_1 lr_1 ra_1; have crc0 := rc_2.cell (j := 0) rfl; have crc1 := rc_2.cell (j := 1) rfl; have crc6 := rc_2.cell (j := 6) rfl; have crc7 := rc_2.cell (j := 7) rfl))
      go_quiet (fail)
      have rcq := rc_2.drewN nq
      have raq := ra_2.drewN nq
      have z4q := z4_2.drewN nq
      have Bq := below_drewN B2 nq
      have hgq : w.grownBy (w2.drewN nq) (some g) := grown_drewN (below_grownBy B2 (some g)) nq
      have szq : (w2.drewN nq).heap.size = w2.heap.size := rfl
      go_wp2_with (first
        | ((with_reducible refine wpList_at ⟨none, .store _ (.tmp 29) _, _, _, _, _⟩ ?_); refine wpList_store_elem rfl _ _ _ rfl g 6 rfl _ _ rcq (.bool true) rfl rfl (by show 6 < 28; omega) (by kernel_rfl) ?_; intro wa rca ga; have zaa := z4q.kept ga (by simp; omega); have raa := raq.kept ga (by simp; omega))
        | ((with_reducible refine wpList_at ⟨some 31, _, _, _, _, _⟩ ?_); refine wpList_valueG rfl _ (by exact exec_loadA _ _ rfl (w.heap.size) rfl a raa) ?_)
        | ((with_reducible refine wpList_at ⟨none, .store _ (.tmp 33) _, _, _, _, _⟩ ?_); refine wpList_store_part rfl _ _ _ rfl g 2 rfl _ _ rca a.cs rfl (a.cs_one) (by show 2 + 4 ≤ 28; omega) (by kernel_rfl) ?_; intro wb rcb gb; have zab := zaa.kept gb (by simp; omega))
        | ((with_reducible refine wpList_at ⟨none, .store _ (.tmp 4) _, _, _, _, _⟩ ?_); refine wpList_store_all rfl _ _ _ rfl (w1.heap.size) rfl _ _ zab ((⟨0, em⟩ : StR).cs) rfl (StR.cs_one _) rfl (by kernel_rfl) ?_; intro wc zac gc; have rcc := rcb.kept gc (by simp; omega)))
      exact bodyPost_ret (results_cell1 Tryz.results66 _ _ _ _ rfl (load_rs10 (a := ⟨0, em⟩) zac)) rfl ⟨rfl, rcc, grown_new (grown_trans (grown_trans hgq ga) gb) gc (by omega)⟩
    obtain ⟨r, hri⟩ : ∃ r, l[i]? = some r := ⟨_, List.getElem?_eq_getElem (by rw [hr.len_of (by decide) StR.cs_len]; omega)⟩
    obtain ⟨ad, rfl, hlta, hc⟩ := hr.elem StR.cs_len hri (by omega)
    have HCC := Lib.hid hc
    have hag := hA (by omega) ad rfl
    have hadlt := hlta
    have HE : Hid (cuDo ⟨some ad, n, d, i, a0, false⟩ l a = (⟨some ad, n, d, i + 1, a0, false⟩, r)) := Lib.hid (by unfold cuDo; simp only; rw [if_neg (by decide), if_neg hend, List.getD, hri]; rfl)
    rw [HE.out]
    clear HE hri hc hA
    go_enter Tryz.func66, Tryz.ntmps66
    go_wp2_with (first
      | ((with_reducible refine wpList_at ⟨some 3, _, _, _, _, _⟩ ?_); refine wpList_box_row rfl _ _ rfl (a.cs) rfl ?_; intro w3 ra_3 s3 g3; have k3 : Below w.heap.size w w3 := grown_below g3 (Nat.le_refl _) (by simp); have B3 : Below w.heap.size w w3 := k3; have rc_3 := hrow.on k3; have lr_3 := hr.on k3; have crc0 := rc_3.cell (j := 0) rfl; have crc1 := rc_3.cell (j := 1) rfl; have crc6 := rc_3.cell (j := 6) rfl; have crc7 := rc_3.cell (j := 7) rfl)
      | (with_reducible refine wpList_alloc_row (o := ⟨some 4, _, _, _, _, _⟩) rfl _ rfl zeroR zero_rs ?_; intro w4 z4_4 s4 g4; have k4 : Below w3.heap.size w3 w4 := grown_below g4 (Nat.le_refl _) (by simp); have B4 := B3.trans (k4.mono B3.size); have rc_4 := rc_3.on k4; have lr_4 := lr_3.on k4; have ra_4 := ra_3.on k4; clear rc_3 lr_3 ra_3; have crc0 := rc_4.cell (j := 0) rfl; have crc1 := rc_4.cell (j := 1) rfl; have crc6 := rc_4.cell (j := 6) rfl; have crc7 := rc_4.cell (j := 7) rfl))
    go_quiet (fail)
    have rcq := rc_4.drewN nq
    have raq := ra_4.drewN nq
    have z4q := z4_4.drewN nq
    have Bq := below_drewN B4 nq
    have hgq : w.grownBy (w4.drewN nq) (some g) := grown_drewN (below_grownBy B4 (some g)) nq
    have szq : (w4.drewN nq).heap.size = w4.heap.size := rfl
    have crq1 := rcq.cell (j := 1) rfl
    go_wp2_with ((with_reducible refine wpList_at ⟨none, .store _ (.tmp 41) _, _, _, _, _⟩ ?_); refine wpList_store_elem rfl _ _ _ rfl g 1 rfl _ _ rcq (.int .i64 ((i : Int) + 1)) rfl rfl (by show 1 < 28; omega) (by kernel_rfl) ?_; intro wa rca0 ga; have zaa := z4q.kept ga (by simp; omega); have rca : Row wa g 68 (⟨some ad, n, d, i + 1, a0, false⟩ : Cu).cs := rca0; have cra0 := rca.cell (j := 0) rfl; have cra1 := rca.cell (j := 1) rfl; have hca : ∀ j u, r.cs[j]? = some u → wa.cell? ((ad.add (i * 2)).add j) = some u := fun j u hu => (World.cell?_of_block (ga.block _ (by rw [block_of_add, block_of_add]; omega) (by rw [block_of_add, block_of_add]; simp; omega))).trans ((Bq.cell (by rw [block_of_add, block_of_add]; exact hlta)).trans (HCC.out j u hu)))
    have hga := grown_trans hgq ga
    try simp only [Act.put, List.setIfInBounds_toArray, List.set_cons_zero, List.set_cons_succ]
    have rcd := rca.drew
    have zad := zaa.drew
    have hcd : ∀ j u, r.cs[j]? = some u → wa.drew.cell? ((ad.add (i * 2)).add j) = some u := hca
    refine wp_region_plan (fun w' => Row w' g 68 (⟨some ad, n, d, i + 1, a0, false⟩ : Cu).cs ∧ ∀ j u, r.cs[j]? = some u → w'.cell? ((ad.add (i * 2)).add j) = some u) (.take 0 <| .take 4 <| .two 1 (.take 2 <| .take 3 <| .one 5 <| .take 6 <| .take 7 <| .take 8 <| .take 9 <| .take 10 <| .one 11 <| .done) 5 (.take 6 <| .take 7 <| .take 8 <| .one 1 <| .take 2 <| .take 3 <| .take 9 <| .take 10 <| .one 11 <| .done)) (by kernel_rfl) (by kernel_rfl) (by kernel_rfl) (fun _ _ _ _ _ h => h) ⟨rcd, hcd⟩ ?_
    repeat (refine plan_take _ rfl ?_; (first | ((with_reducible refine wpQuiet_at ⟨some 45, _, _, _, _, _⟩ ?_); refine wpQuiet_valueG rfl _ (by intro _ hS; exact exec_load1 _ 22 _ rfl ⟨g, 0, none⟩ rfl _ (hS.1.cell (j := 0) rfl) _ Tryz.underlying22 rfl) (wpQuiet_nil ?_); simp only [Act.put, List.setIfInBounds_toArray, List.set_cons_zero, List.set_cons_succ]) | ((with_reducible refine wpQuiet_at ⟨some 49, _, _, _, _, _⟩ ?_); refine wpQuiet_valueG rfl _ (by intro _ hS; exact exec_load1 _ 3 _ rfl ⟨g, 1, none⟩ rfl _ (hS.1.cell (j := 1) rfl) _ Tryz.underlying3 rfl) (wpQuiet_nil ?_); simp only [Act.put, List.setIfInBounds_toArray, List.set_cons_zero, List.set_cons_succ]) | ((with_reducible refine wpQuiet_at ⟨some 52, _, _, _, _, _⟩ ?_); refine wpQuiet_valueG rfl _ (by intro _ hS; exact exec_load _ 37 _ rfl (ad.add (i * 2)) rfl r.cs hS.2 _ Tryz.underlying37 rfl (by kernel_rfl)) (wpQuiet_nil ?_); simp only [Act.put, List.setIfInBounds_toArray, List.set_cons_zero, List.set_cons_succ]) | (go_big_quiet_step ((intros; rfl)); refine wpQuiet_nil ?_)))
    refine plan_two ?_ ?_
    · refine step_at _ rfl fun K hK => ?_
      go_simp
      refine hK _ _ ⟨rcd, hcd⟩ ?_
      clear hK K
      repeat (refine plan_take _ rfl ?_; (first | ((with_reducible refine wpQuiet_at ⟨some 45, _, _, _, _, _⟩ ?_); refine wpQuiet_valueG rfl _ (by intro _ hS; exact exec_load1 _ 22 _ rfl ⟨g, 0, none⟩ rfl _ (hS.1.cell (j := 0) rfl) _ Tryz.underlying22 rfl) (wpQuiet_nil ?_); simp only [Act.put, List.setIfInBounds_toArray, List.set_cons_zero, List.set_cons_succ]) | ((with_reducible refine wpQuiet_at ⟨some 49, _, _, _, _, _⟩ ?_); refine wpQuiet_valueG rfl _ (by intro _ hS; exact exec_load1 _ 3 _ rfl ⟨g, 1, none⟩ rfl _ (hS.1.cell (j := 1) rfl) _ Tryz.underlying3 rfl) (wpQuiet_nil ?_); simp only [Act.put, List.setIfInBounds_toArray, List.set_cons_zero, List.set_cons_succ]) | ((with_reducible refine wpQuiet_at ⟨some 52, _, _, _, _, _⟩ ?_); refine wpQuiet_valueG rfl _ (by intro _ hS; exact exec_load _ 37 _ rfl (ad.add (i * 2)) rfl r.cs hS.2 _ Tryz.underlying37 rfl (by kernel_rfl)) (wpQuiet_nil ?_); simp only [Act.put, List.setIfInBounds_toArray, List.set_cons_zero, List.set_cons_succ]) | (go_big_quiet_step ((intros; rfl)); refine wpQuiet_nil ?_)))
      refine plan_one _ rfl fun K hK => ?_
      go_simp
      refine hK _ _ ⟨rcd, hcd⟩ ?_
      clear hK K
      repeat (refine plan_take _ rfl ?_; (first | ((with_reducible refine wpQuiet_at ⟨some 45, _, _, _, _, _⟩ ?_); refine wpQuiet_valueG rfl _ (by intro _ hS; exact exec_load1 _ 22 _ rfl ⟨g, 0, none⟩ rfl _ (hS.1.cell (j := 0) rfl) _ Tryz.underlying22 rfl) (wpQuiet_nil ?_); simp only [Act.put, List.setIfInBounds_toArray, List.set_cons_zero, List.set_cons_succ]) | ((with_reducible refine wpQuiet_at ⟨some 49, _, _, _, _, _⟩ ?_); refine wpQuiet_valueG rfl _ (by intro _ hS; exact exec_load1 _ 3 _ rfl ⟨g, 1, none⟩ rfl _ (hS.1.cell (j := 1) rfl) _ Tryz.underlying3 rfl) (wpQuiet_nil ?_); simp only [Act.put, List.setIfInBounds_toArray, List.set_cons_zero, List.set_cons_succ]) | ((with_reducible refine wpQuiet_at ⟨some 52, _, _, _, _, _⟩ ?_); refine wpQuiet_valueG rfl _ (by intro _ hS; exact exec_load _ 37 _ rfl (ad.add (i * 2)) rfl r.cs hS.2 _ Tryz.underlying37 rfl (by kernel_rfl)) (wpQuiet_nil ?_); simp only [Act.put, List.setIfInBounds_toArray, List.set_cons_zero, List.set_cons_succ]) | (go_big_quiet_step ((intros; rfl)); refine wpQuiet_nil ?_)))
      refine plan_one _ rfl fun K hK => ?_
      refine step_store_all rfl _ _ _ rfl (w3.heap.size) rfl _ _ zad (r.cs) rfl (r.cs_one) rfl (by kernel_rfl) ?_
      intro we zae ge
      have rce := rcd.kept ge (by simp; omega)
      have hce : ∀ j u, r.cs[j]? = some u → we.cell? ((ad.add (i * 2)).add j) = some u := fun j u hu => (World.cell?_of_block (ge.block _ (by rw [block_of_add, block_of_add]; have := ga.size; have := hadlt; show ad.block < wa.heap.size; omega) (by rw [block_of_add, block_of_add]; simp; omega))).trans (hcd j u hu)
      refine hK _ _ ⟨rce, hce⟩ ?_
      clear hK K
      simp only [Act.put, List.setIfInBounds_toArray, List.set_cons_zero, List.set_cons_succ]
      refine plan_done ?_
      go_wp2_with fail
      exact bodyPost_ret (results_cell1 Tryz.results66 _ _ _ _ rfl (load_rs10 (a := r) zae)) rfl ⟨rfl, rce, grown_new (grown_drewN hga 1) ge (by omega)⟩
    · refine step_at _ rfl fun K hK => ?_
      go_simp
      refine hK _ _ ⟨rcd, hcd⟩ ?_
      clear hK K
      repeat (refine plan_take _ rfl ?_; (first | ((with_reducible refine wpQuiet_at ⟨some 45, _, _, _, _, _⟩ ?_); refine wpQuiet_valueG rfl _ (by intro _ hS; exact exec_load1 _ 22 _ rfl ⟨g, 0, none⟩ rfl _ (hS.1.cell (j := 0) rfl) _ Tryz.underlying22 rfl) (wpQuiet_nil ?_); simp only [Act.put, List.setIfInBounds_toArray, List.set_cons_zero, List.set_cons_succ]) | ((with_reducible refine wpQuiet_at ⟨some 49, _, _, _, _, _⟩ ?_); refine wpQuiet_valueG rfl _ (by intro _ hS; exact exec_load1 _ 3 _ rfl ⟨g, 1, none⟩ rfl _ (hS.1.cell (j := 1) rfl) _ Tryz.underlying3 rfl) (wpQuiet_nil ?_); simp only [Act.put, List.setIfInBounds_toArray, List.set_cons_zero, List.set_cons_succ]) | ((with_reducible refine wpQuiet_at ⟨some 52, _, _, _, _, _⟩ ?_); refine wpQuiet_valueG rfl _ (by intro _ hS; exact exec_load _ 37 _ rfl (ad.add (i * 2)) rfl r.cs hS.2 _ Tryz.underlying37 rfl (by kernel_rfl)) (wpQuiet_nil ?_); simp only [Act.put, List.setIfInBounds_toArray, List.set_cons_zero, List.set_cons_succ]) | (go_big_quiet_step ((intros; rfl)); refine wpQuiet_nil ?_)))
      refine plan_one _ rfl fun K hK => ?_
      go_simp
      refine hK _ _ ⟨rcd, hcd⟩ ?_
      clear hK K
      repeat (refine plan_take _ rfl ?_; (first | ((with_reducible refine wpQuiet_at ⟨some 45, _, _, _, _, _⟩ ?_); refine wpQuiet_valueG rfl _ (by intro _ hS; exact exec_load1 _ 22 _ rfl ⟨g, 0, none⟩ rfl _ (hS.1.cell (j := 0) rfl) _ Tryz.underlying22 rfl) (wpQuiet_nil ?_); simp only [Act.put, List.setIfInBounds_toArray, List.set_cons_zero, List.set_cons_succ]) | ((with_reducible refine wpQuiet_at ⟨some 49, _, _, _, _, _⟩ ?_); refine wpQuiet_valueG rfl _ (by intro _ hS; exact exec_load1 _ 3 _ rfl ⟨g, 1, none⟩ rfl _ (hS.1.cell (j := 1) rfl) _ Tryz.underlying3 rfl) (wpQuiet_nil ?_); simp only [Act.put, List.setIfInBounds_toArray, List.set_cons_zero, List.set_cons_succ]) | ((with_reducible refine wpQuiet_at ⟨some 52, _, _, _, _, _⟩ ?_); refine wpQuiet_valueG rfl _ (by intro _ hS; exact exec_load _ 37 _ rfl (ad.add (i * 2)) rfl r.cs hS.2 _ Tryz.underlying37 rfl (by kernel_rfl)) (wpQuiet_nil ?_); simp only [Act.put, List.setIfInBounds_toArray, List.set_cons_zero, List.set_cons_succ]) | (go_big_quiet_step ((intros; rfl)); refine wpQuiet_nil ?_)))
      refine plan_one _ rfl fun K hK => ?_
      refine step_store_all rfl _ _ _ rfl (w3.heap.size) rfl _ _ zad (r.cs) rfl (r.cs_one) rfl (by kernel_rfl) ?_
      intro we zae ge
      have rce := rcd.kept ge (by simp; omega)
      have hce : ∀ j u, r.cs[j]? = some u → we.cell? ((ad.add (i * 2)).add j) = some u := fun j u hu => (World.cell?_of_block (ge.block _ (by rw [block_of_add, block_of_add]; have := ga.size; have := hadlt; show ad.block < wa.heap.size; omega) (by rw [block_of_add, block_of_add]; simp; omega))).trans (hcd j u hu)
      refine hK _ _ ⟨rce, hce⟩ ?_
      clear hK K
      simp only [Act.put, List.setIfInBounds_toArray, List.set_cons_zero, List.set_cons_succ]
      refine plan_done ?_
      go_wp2_with fail
      exact bodyPost_ret (results_cell1 Tryz.results66 _ _ _ _ rfl (load_rs10 (a := r) zae)) rfl ⟨rfl, rce, grown_new (grown_drewN hga 1) ge (by omega)⟩
end Go.Proofs.YtfclifolniefpaaGreatDoor

/-
  What the reference's Read and Write of a step program, and its area return: contracts by walks. Condition: bounded lengths.
-/
namespace Go.Proofs.YtfclifolniefpaaGreatDoor
open Go.RowKit

theorem World.grownBy_any10 {w w' : World} {row : Option Nat} (h : w.grownBy w' none) : w.grownBy w' row := ⟨h.os, h.tape, h.output, h.size, fun k hk _ => h.block k hk (by simp)⟩
theorem grown_own {w w1 w2 : World} {row r2 : Option Nat} (h : w.grownBy w1 row) (k : w1.grownBy w2 r2) (hb : ∀ q, r2 = some q → w.heap.size ≤ q) : w.grownBy w2 row :=
  ⟨k.os.trans h.os, k.tape.trans h.tape, k.output.trans h.output, Nat.le_trans h.size k.size, fun q hq hne => (k.block q (Nat.lt_of_lt_of_le hq h.size) (fun e => by have := hb q e.symm; omega)).trans (h.block q hq hne)⟩
/-- The state behind j accesses. -/
def cuS (A : Option Addr) (n d : Nat) (acc : Nat → StA) (j : Nat) : Cu := if j ≤ n then ⟨A, n, d, j, noA, false⟩ else ⟨A, n, d, n, acc n, true⟩
def rdS (l : List StR) (j : Nat) : ByteArray := (l.getD j ⟨0, em⟩).s
theorem cuDo_S (A : Option Addr) (n d : Nat) (acc : Nat → StA) (j : Nat) (l : List StR) (hl : l.length = n) : (cuDo (cuS A n d acc j) l (acc j)).1 = cuS A n d acc (j + 1) ∧ (cuDo (cuS A n d acc j) l (acc j)).2.s = rdS l j := by
  have hd : n ≤ j → l.getD j ⟨0, em⟩ = ⟨0, em⟩ := fun h => by rw [List.getD, List.getElem?_eq_none (by omega)]; rfl
  unfold cuS cuDo rdS
  by_cases h1 : j ≤ n
  · rw [if_pos h1]
    simp only
    rw [if_neg (by decide)]
    by_cases h2 : n ≤ j
    · rw [if_pos h2, if_neg (by omega), hd h2]
      have : j = n := by omega
      subst this
      exact ⟨rfl, rfl⟩
    · rw [if_neg h2, if_pos (by omega)]
      exact ⟨rfl, rfl⟩
  · rw [if_neg h1, if_neg (show ¬ j + 1 ≤ n by omega), hd (by omega)]
    exact ⟨rfl, rfl⟩
theorem cuS_i (A : Option Addr) (n d : Nat) (acc : Nat → StA) (j : Nat) : ∃ i a st, cuS A n d acc j = ⟨A, n, d, i, a, st⟩ ∧ i ≤ n := by
  unfold cuS
  by_cases h : j ≤ n
  · exact ⟨j, noA, false, by rw [if_pos h], h⟩
  · exact ⟨n, acc n, true, by rw [if_neg h], Nat.le_refl _⟩
set_option maxRecDepth 100000 in
set_option maxHeartbeats 4000000 in
/-- One access of a program. -/
theorem cstep_any (g : Nat) (A : Option Addr) (n d : Nat) (acc : Nat → StA) (j : Nat) (l : List StR) (w : World) (hrow : Row w g 68 (cuS A n d acc j).cs) (hr : Reads w w.heap.size 2 A n (rcs l)) (hA : 0 < n → ∀ ad, A = some ad → ad.block ≠ g) (hn : n ≤ 100000) :
    Calls Tryz.prog 66 #[.pointer (some ⟨g, 0, none⟩), (acc j).v] w (fun e w' => ∃ r : StR, e = .returned r.v ∧ r.s = rdS l j ∧ Row w' g 68 (cuS A n d acc (j + 1)).cs ∧ w.grownBy w' (some g)) := by
  have hl := hr.len_of (by decide) StR.cs_len
  obtain ⟨h1, h2⟩ := cuDo_S A n d acc j l hl
  obtain ⟨i, a, st, hc, hi⟩ := cuS_i A n d acc j
  rw [hc] at hrow h1 h2
  refine (cdo_any g A n d i a st l (acc j) w hrow hr hA (by omega) hn).mono ?_
  rintro e w' ⟨rfl, hrow', hg⟩
  rw [h1] at hrow'
  exact ⟨_, rfl, h2, hrow', hg⟩
set_option maxRecDepth 100000 in
set_option maxHeartbeats 4000000 in
theorem cread_any (g : Nat) (A : Option Addr) (n d : Nat) (acc : Nat → StA) (j : Nat) (l : List StR) (sec : Int) (hacc : acc j = ⟨3, 0, sec, em⟩) (w : World) (hrow : Row w g 68 (cuS A n d acc j).cs) (hr : Reads w w.heap.size 2 A n (rcs l)) (hA : 0 < n → ∀ ad, A = some ad → ad.block ≠ g) (hn : n ≤ 100000) :
    Calls Tryz.prog 76 #[.pointer (some ⟨g, 0, none⟩), .int .i64 sec] w (GivesC g (cuS A n d acc (j + 1)) (.string (rdS l j)) w) := by
  have HC := Lib.hid (cstep_any g A n d acc j l w hrow hr hA hn)
  rw [hacc] at HC
  have hgl := hrow.lt
  clear hrow hr hA hacc
  generalize cuS A n d acc (j + 1) = c1 at *
  generalize rdS l j = R at *
  go_enter Tryz.func76, Tryz.ntmps76
  go_wp2_with fail
  refine HC.out.mono ?_
  rintro e w1 ⟨r, rfl, hrs, r1, g1⟩
  subst hrs
  have hs1 := g1.size
  go_wp2_with (first
    | (with_reducible refine wpList_alloc_row (o := ⟨some 5, _, _, _, _, _⟩) rfl _ rfl zeroR zero_rs ?_; intro w2 z2 s2 g2)
    | ((with_reducible refine wpList_at ⟨none, .store _ (.tmp 5) _, _, _, _, _⟩ ?_); refine wpList_store_all rfl _ _ _ rfl w1.heap.size rfl _ _ z2 (r.cs) rfl (r.cs_one) rfl (by kernel_rfl) ?_; intro w3 z3 g3; have r3 := (r1.kept g2 (by simp)).kept g3 (by simp; omega); have c3 := z3.cell (j := 1) rfl))
  go_ret
  exact ⟨rfl, r3, grown_new (grown_trans g1 (World.grownBy_any10 g2)) g3 hs1⟩
set_option maxRecDepth 100000 in
set_option maxHeartbeats 4000000 in
theorem cwrite_any (g : Nat) (A : Option Addr) (n d : Nat) (acc : Nat → StA) (j : Nat) (l : List StR) (sec : Int) (x : ByteArray) (hacc : acc j = ⟨4, 0, sec, x⟩) (w : World) (hrow : Row w g 68 (cuS A n d acc j).cs) (hr : Reads w w.heap.size 2 A n (rcs l)) (hA : 0 < n → ∀ ad, A = some ad → ad.block ≠ g) (hn : n ≤ 100000) :
    Calls Tryz.prog 43 #[.pointer (some ⟨g, 0, none⟩), .int .i64 sec, .string x] w (fun e w' => (∃ v, e = .returned v) ∧ Row w' g 68 (cuS A n d acc (j + 1)).cs ∧ w.grownBy w' (some g)) := by
  have HC := Lib.hid (cstep_any g A n d acc j l w hrow hr hA hn)
  rw [hacc] at HC
  clear hrow hr hA hacc
  generalize cuS A n d acc (j + 1) = c1 at *
  go_enter Tryz.func43, Tryz.ntmps43
  go_wp2_with fail
  refine HC.out.mono ?_
  rintro e w1 ⟨r, rfl, hrs, r1, g1⟩
  clear hrs
  go_wp2_with fail
  refine bodyPost_end (results_none rfl _ _ _) rfl ⟨⟨_, rfl⟩, r1, g1⟩
/-- The bytes of k accesses from j on. -/
def arS (l : List StR) (j k : Nat) : List UInt8 := (List.range k).flatMap fun i => tl (rdS l (j + i))
theorem arS_succ (l : List StR) (j k : Nat) : arS l j (k + 1) = arS l j k ++ tl (rdS l (j + k)) := by unfold arS; rw [List.range_succ, List.flatMap_append]; simp
theorem rdS_sz {l : List StR} (h : ∀ r ∈ l, r.s.size ≤ 400) (j : Nat) : (rdS l j).size ≤ 400 := by
  unfold rdS
  rw [List.getD]
  cases hj : l[j]? with
  | none => show 0 ≤ 400; omega
  | some r => exact h r (List.mem_of_getElem? hj)
theorem arS_len {l : List StR} (h : ∀ r ∈ l, r.s.size ≤ 400) (j : Nat) : ∀ k, (arS l j k).length ≤ 400 * k
  | 0 => by simp [arS]
  | k + 1 => by
    have ih := arS_len h j k
    have h2 := rdS_sz h (j + k)
    rw [arS_succ, List.length_append, tl_len]
    omega
set_option maxRecDepth 100000 in
set_option maxHeartbeats 4000000 in
theorem carea_any (g : Nat) (A : Option Addr) (n d : Nat) (acc : Nat → StA) (ar : Nat) (rec : Int) (l : List StR) (hin : stIn rec = true) (har : ar ≤ 1) (hacc : ∀ j, j < 16 → acc j = stRead rec j) (w : World) (hrow : Row w g 68 (cuS A n d acc (8 * ar)).cs) (hr : Reads w w.heap.size 2 A n (rcs l)) (hA : 0 < n → ∀ ad, A = some ad → ad.block ≠ g) (hn : n ≤ 100000) (hs : ∀ r ∈ l, r.s.size ≤ 400) :
    Calls Tryz.prog 58 #[.pointer (some ⟨g, 0, none⟩), .int .i64 rec, .int .i64 (ar : Int)] w (fun e w' => ∃ v, e = .returned v ∧ w'.ownsRow w.heap.size 5 1 v (arS l (8 * ar) 8).length (bvs (arS l (8 * ar) 8)) ∧ Row w' g 68 (cuS A n d acc (8 * ar + 8)).cs ∧ w.grownBy w' (some g)) := by
  obtain ⟨i0, hi0, hz0, hz1, hz2⟩ := info_parts info_u8
  have HF := fun W => Lib.hid (rfirst_any rec (ar : Int) W)
  rw [stFirst_ok hin (by omega) (by omega)] at HF
  have hrb := stIn_iff.1 hin
  obtain ⟨hr0, hr3⟩ := hrb
  have HRD : ∀ (i : Nat) (W : World), i < 8 → Row W g 68 (cuS A n d acc (8 * ar + i)).cs → w.grownBy W (some g) → Hid (Calls Tryz.prog 76 #[.pointer (some ⟨g, 0, none⟩), .int .i64 (16 * rec + 8 * (ar : Int) + (i : Int))] W (GivesC g (cuS A n d acc (8 * ar + i + 1)) (.string (rdS l (8 * ar + i))) W)) := fun i W hi hR hG =>
    Lib.hid (cread_any g A n d acc (8 * ar + i) l (16 * rec + 8 * (ar : Int) + (i : Int)) (by rw [hacc _ (by omega)]; unfold stRead; congr 1; omega) W hR (hr.keptG hG hA) hA hn)
  have HSZ := fun j => Lib.hid (rdS_sz hs j)
  have HAL := fun k => Lib.hid (arS_len hs (8 * ar) k)
  have HAS := fun k => Lib.hid (arS_succ l (8 * ar) k)
  have hgl := hrow.lt
  clear hr hA hs hacc
  go_enter Tryz.func58, Tryz.ntmps58
  go_wp2_with fail
  go_loopg [7, 8] 8 (fun gh s7 s8 wr => ∃ i : Nat, Hid (i + gh = 8) ∧ i ≤ 8 ∧ s8 = .int .i64 (i : Int) ∧ wr.ownsRow w.heap.size 5 1 s7 (arS l (8 * ar) i).length (bvs (arS l (8 * ar) i)) ∧ Row wr g 68 (cuS A n d acc (8 * ar + i)).cs ∧ w.grownBy wr (some g))
  case atStart => exact ⟨0, by show _ = _; omega, by omega, rfl, World.ownsRow_nil _ _ _ _, hrow, World.grownBy.refl _ _⟩
  case round =>
    obtain ⟨i, HI, hi, rfl, ow, rC, hG⟩ := hrel
    obtain ⟨A7, c7, rfl, hc7, _, _⟩ := own_form ow
    have hsz := hG.size
    by_cases hlt : i < 8
    · have HRI := HRD i wr hlt rC hG
      have hal := (HAL i).out
      have HA1 := HAS i
      have hrz := (HSZ (8 * ar + i)).out
      obtain ⟨s, hse⟩ : ∃ s, s = rdS l (8 * ar + i) := ⟨_, rfl⟩
      rw [← hse] at HRI HA1 hrz
      obtain ⟨L, hL⟩ : ∃ L, L = (arS l (8 * ar) i).length := ⟨_, rfl⟩
      have HL := Lib.hid hL
      rw [← hL] at ow hal hc7
      rw [← hL]
      clear hse hL
      go_wp2_with fail
      refine ((HF _).out).mono ?_
      rintro e _ ⟨rfl, rfl⟩
      go_wp2_with fail
      refine (HRI.out).mono ?_
      rintro e w1 ⟨rfl, r1, g1⟩
      have o1 := ow.kept g1 (.inr (rC.not_row7 (by decide) ow).symm)
      have hs1 := g1.size
      obtain ⟨Ab, cb, w2, hrun, hcb, d2, hb2⟩ : ∃ Ab cb w2, (∀ (ρ : Operand → Value) (o : Oper), o.op = .convert 9 76 (.tmp 22) → ρ (.tmp 22) = .string s → (execOp ρ o).run Tryz.prog w1 = .ok (.value (.slice Ab s.size cb)) w2) ∧ s.size ≤ cb ∧ Reads w2 w2.heap.size 1 Ab s.size (bvs s.data.toList) ∧ Below w1.heap.size w1 w2 := by
        obtain ⟨Ab, cb, w2, h1, h2, h3, h4⟩ := exec_bytes_of (P := Tryz.prog) (ρ := fun _ => .string s) (o := ⟨none, .convert 9 76 (.tmp 22), 0, "", #[], none⟩) w1 _ _ _ _ rfl Tryz.underlying9 Tryz.underlying5 Tryz.underlying76 (s := s) rfl
        refine ⟨Ab, cb, w2, fun ρ o ho hx => ?_, h2, h3, h4⟩
        unfold execOp at h1 ⊢
        simp only [ho, hx]
        exact h1
      have HRUN := Lib.hid hrun
      clear hrun
      have r2 := r1.on hb2
      have o2 := own_below o1 hb2
      have hs2 := hb2.size
      have G2 := grown_trans (grown_trans hG g1) (below_grownBy hb2 (some g))
      go_wp2_with (first
        | ((with_reducible refine wpList_at ⟨some 23, _, _, _, _, _⟩ ?_); refine wpList_valueW rfl _ (by exact HRUN.out _ _ rfl rfl) ?_)
        | (at_builtin; refine wpList_append_at9 rfl (.tmp 21) (.tmp 23) _ _ rfl w.heap.size 5 i0 _ 1 1 Tryz.underlying76 hi0 hz0 hz1 hz2 rfl _ _ _ rfl o2 s.size _ (Src.ofReads _ Tryz.underlying76 d2 (bvs_one _)) (by unfold maxLen; omega) (by omega) (by omega) ?_; intro v3 w3 o3 g3 ob3; have r3 := r2.kept g3 (r2.not_row7 (by decide) o2)))
      have hnb : ∀ q, (.slice A7 L c7 : Value).ownBlock = some q → w.heap.size ≤ q := fun q hq => (o2.lt q hq).1
      go_roundg (gk - 1)
      case measure => have := HI.out; omega
      case rel => exact ⟨i + 1, by have := HI.out; show _ = _; omega, by omega, by go_num, by rw [HA1.out, List.length_append, bvs_append, ← HL.out, tl_len]; exact o3, r3, grown_own G2 g3 hnb⟩
    · obtain rfl : i = 8 := by omega
      go_wp2_with fail
      go_ret
      exact ⟨_, rfl, ow, rC, hG⟩
end Go.Proofs.YtfclifolniefpaaGreatDoor
