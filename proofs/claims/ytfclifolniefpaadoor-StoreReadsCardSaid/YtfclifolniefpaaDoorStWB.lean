/-
  Words of layer 10: the values of accesses, outcomes, areas and results; small contracts of the landed code by walks. No condition.
-/
import Derived.Test.YtfclifolniefpaaDoorProg
import Derived.Test.YtfclifolniefpaaDoorStMU
import Derived.Test.YtfclifolniefpaaDoorFlG
import Derived.Deep.LoopGhost
set_option linter.unusedSimpArgs false
set_option linter.unusedVariables false
namespace Go.Proofs.YtfclifolniefpaaDoor
open Go.RowKit

theorem wpQuiet_at {P : Program} {ops : Array Oper} {C : World → Prop} {Q : Act → Prop} {rest : List Oper} (o : Oper) {a : Act} (h : wpQuiet P ops C Q (o :: rest) a) : wpQuiet P ops C Q (o :: rest) a := h
/-- An area as the landed code holds it. -/
structure StD where
  n : Int
  s : ByteArray
def stD (p : Int × List UInt8) : StD := ⟨p.1, mk p.2⟩
def StA.cs (a : StA) : List Value := [.int .i64 a.k, .int .i64 a.b, .int .i64 a.c, .string a.s]
def StA.v (a : StA) : Value := .agg a.cs.toArray
def StR.cs (r : StR) : List Value := [.int .i64 r.x, .string r.s]
def StR.v (r : StR) : Value := .agg r.cs.toArray
def StO.cs (r : StO) : List Value := [.string r.s, .int .i64 r.n, .int .i64 r.e]
def StO.v (r : StO) : Value := .agg r.cs.toArray
def StD.cs (r : StD) : List Value := [.int .i64 r.n, .string r.s]
def StD.v (r : StD) : Value := .agg r.cs.toArray
/-- Both areas. -/
structure StE where
  a : StD
  b : StD
def StE.cs (r : StE) : List Value := [.int .i64 r.a.n, .string r.a.s, .int .i64 r.b.n, .string r.b.s]
def StE.v (r : StE) : Value := .agg r.cs.toArray
def rcs (l : List StR) : List Value := l.flatMap StR.cs
theorem StA.cs_one (a : StA) : ∀ u ∈ a.cs, u.oneCell' = true := by intro u hu; unfold StA.cs at hu; simp at hu; rcases hu with rfl | rfl | rfl | rfl <;> rfl
theorem StR.cs_one (a : StR) : ∀ u ∈ a.cs, u.oneCell' = true := by intro u hu; unfold StR.cs at hu; simp at hu; rcases hu with rfl | rfl <;> rfl
theorem StO.cs_one (a : StO) : ∀ u ∈ a.cs, u.oneCell' = true := by intro u hu; unfold StO.cs at hu; simp at hu; rcases hu with rfl | rfl | rfl <;> rfl
theorem StD.cs_one (a : StD) : ∀ u ∈ a.cs, u.oneCell' = true := by intro u hu; unfold StD.cs at hu; simp at hu; rcases hu with rfl | rfl <;> rfl
theorem StE.cs_one (a : StE) : ∀ u ∈ a.cs, u.oneCell' = true := by intro u hu; unfold StE.cs at hu; simp at hu; rcases hu with rfl | rfl | rfl | rfl <;> rfl
def zeroA : List Value := [.int .i64 0, .int .i64 0, .int .i64 0, .string ⟨#[]⟩]
def zeroR : List Value := [.int .i64 0, .string ⟨#[]⟩]
def zeroO : List Value := [.string ⟨#[]⟩, .int .i64 0, .int .i64 0]
def zeroD : List Value := [.int .i64 0, .string ⟨#[]⟩]
def zeroE : List Value := [.int .i64 0, .string ⟨#[]⟩, .int .i64 0, .string ⟨#[]⟩]
theorem zero_ac : (Tryd.prog.info? 40).map (fun i => i.zero.map (·.cells)) = some (some zeroA.toArray) := by kernel_rfl
theorem zero_rs : (Tryd.prog.info? 55).map (fun i => i.zero.map (·.cells)) = some (some zeroR.toArray) := by kernel_rfl
theorem zero_so : (Tryd.prog.info? 33).map (fun i => i.zero.map (·.cells)) = some (some zeroO.toArray) := by kernel_rfl
theorem zero_sd : (Tryd.prog.info? 69).map (fun i => i.zero.map (·.cells)) = some (some zeroD.toArray) := by kernel_rfl
theorem zero_se : (Tryd.prog.info? 70).map (fun i => i.zero.map (·.cells)) = some (some zeroE.toArray) := by kernel_rfl

/-! ## What comes back -/
def TellsI (x : Int) (w : World) (e : Ending) (w' : World) : Prop := e = .returned (.int .i64 x) ∧ Below w.heap.size w w'
def TellsII (x y : Int) (w : World) (e : Ending) (w' : World) : Prop := e = .returned (.tuple #[.int .i64 x, .int .i64 y]) ∧ Below w.heap.size w w'
/-- An access, an outcome and a bool come back. -/
def GivesS (r : StA × StO × Bool) (w : World) (e : Ending) (w' : World) : Prop := e = .returned (.tuple #[r.1.v, r.2.1.v, .bool r.2.2]) ∧ Below w.heap.size w w'
def GivesX (v : Value) (w : World) (e : Ending) (w' : World) : Prop := e = .returned v ∧ Below w.heap.size w w'
section
variable {P : Program}
/-- Three results, the first two of them in memory. -/
theorem results_cells2 {fn : Func} {p q t : Tmp} {ty tz : TypeId} (h : fn.results = #[.cell p ty, .cell q tz, .tmp t]) (tmps : Array Value) (w : World) (ad bd : Addr) (x y : Value) (hp : tmps.getD p undef = .pointer (some ad)) (hq : tmps.getD q undef = .pointer (some bd))
    (hl : (loadVar ty ad).run P w = .ok x w) (hm : (loadVar tz bd).run P w = .ok y w) : (results fn tmps).run P w = .ok (.tuple #[x, y, tmps.getD t undef]) w := by
  have hp' : tmps[p]?.getD undef = .pointer (some ad) := by simpa using hp
  have hq' : tmps[q]?.getD undef = .pointer (some bd) := by simpa using hq
  simp [results, h, hp', hq', asAddr, hl, hm]
/-- Three results, all in memory. -/
theorem results_cells3 {fn : Func} {p q t : Tmp} {ty tz tu : TypeId} (h : fn.results = #[.cell p ty, .cell q tz, .cell t tu]) (tmps : Array Value) (w : World) (ad bd cd : Addr) (x y z : Value) (hp : tmps.getD p undef = .pointer (some ad)) (hq : tmps.getD q undef = .pointer (some bd)) (ht : tmps.getD t undef = .pointer (some cd))
    (hl : (loadVar ty ad).run P w = .ok x w) (hm : (loadVar tz bd).run P w = .ok y w) (hn : (loadVar tu cd).run P w = .ok z w) : (results fn tmps).run P w = .ok (.tuple #[x, y, z]) w := by
  have hp' : tmps[p]?.getD undef = .pointer (some ad) := by simpa using hp
  have hq' : tmps[q]?.getD undef = .pointer (some bd) := by simpa using hq
  have ht' : tmps[t]?.getD undef = .pointer (some cd) := by simpa using ht
  simp [results, h, hp', hq', ht', asAddr, hl, hm, hn]
end
section
variable {w : World} {g : Nat} {e : TypeId}
theorem load_ac {a : StA} (hr : Row w g e a.cs) : (loadVar 40 ⟨g, 0, none⟩).run Tryd.prog w = .ok a.v w := run_loadVar_at (P := Tryd.prog) w _ ⟨g, 0, none⟩ a.cs hr.cells _ Tryd.underlying40 rfl (by kernel_rfl)
theorem load_so {a : StO} (hr : Row w g e a.cs) : (loadVar 33 ⟨g, 0, none⟩).run Tryd.prog w = .ok a.v w := run_loadVar_at (P := Tryd.prog) w _ ⟨g, 0, none⟩ a.cs hr.cells _ Tryd.underlying33 rfl (by kernel_rfl)
theorem load_sd {a : StD} (hr : Row w g e a.cs) : (loadVar 69 ⟨g, 0, none⟩).run Tryd.prog w = .ok a.v w := run_loadVar_at (P := Tryd.prog) w _ ⟨g, 0, none⟩ a.cs hr.cells _ Tryd.underlying69 rfl (by kernel_rfl)
theorem load_se {a : StE} (hr : Row w g e a.cs) : (loadVar 70 ⟨g, 0, none⟩).run Tryd.prog w = .ok a.v w := run_loadVar_at (P := Tryd.prog) w _ ⟨g, 0, none⟩ a.cs hr.cells _ Tryd.underlying70 rfl (by kernel_rfl)
end
section
variable {ρ : Operand → Value} {o : Oper}
theorem exec_loadA (w : World) (x : Operand) (ho : o.op = .load 40 x) (g : Nat) (hx : ρ x = .pointer (some ⟨g, 0, none⟩)) (a : StA) {e : TypeId} (hr : Row w g e a.cs) :
    (execOp ρ o).run Tryd.prog w = .ok (.value a.v) w := exec_load w _ x ho ⟨g, 0, none⟩ hx a.cs hr.cells _ Tryd.underlying40 rfl (by kernel_rfl)
theorem exec_loadO (w : World) (x : Operand) (ho : o.op = .load 33 x) (g : Nat) (hx : ρ x = .pointer (some ⟨g, 0, none⟩)) (a : StO) {e : TypeId} (hr : Row w g e a.cs) :
    (execOp ρ o).run Tryd.prog w = .ok (.value a.v) w := exec_load w _ x ho ⟨g, 0, none⟩ hx a.cs hr.cells _ Tryd.underlying33 rfl (by kernel_rfl)
theorem exec_loadE (w : World) (x : Operand) (ho : o.op = .load 70 x) (g : Nat) (hx : ρ x = .pointer (some ⟨g, 0, none⟩)) (a : StE) {e : TypeId} (hr : Row w g e a.cs) :
    (execOp ρ o).run Tryd.prog w = .ok (.value a.v) w := exec_load w _ x ho ⟨g, 0, none⟩ hx a.cs hr.cells _ Tryd.underlying70 rfl (by kernel_rfl)
end

/-! ## Small contracts of the landed code -/
theorem stIn_neg {rec : Int} (h : rec < 0) : stIn rec = false := by unfold stIn; rw [decide_eq_false (by omega)]; rfl
theorem stIn_far {rec : Int} (h : 4 ≤ rec) : stIn rec = false := by unfold stIn; rw [decide_eq_false (p := rec ≤ 3) (by omega), Bool.and_false]
theorem stIn_ok {rec : Int} (h : 0 ≤ rec) (h3 : rec ≤ 3) : stIn rec = true := stIn_iff.2 ⟨h, h3⟩
set_option maxRecDepth 100000 in
set_option maxHeartbeats 1000000 in
theorem sexists_any (rec : Int) (w : World) : Calls Tryd.prog 22 #[.int .i64 rec] w (fun e w' => e = .returned (.bool (stIn rec)) ∧ w = w') := by
  by_cases h0 : rec < 0
  · have HE := Lib.hid (stIn_neg h0)
    generalize stIn rec = E at *
    go_enter Tryd.func22, Tryd.ntmps22
    go_wp2_with fail
    go_ret
    exact ⟨by rw [HE.out]; rfl, rfl⟩
  · have HE : Hid (stIn rec = decide (rec < 4)) := Lib.hid (by
      unfold stIn
      rw [decide_eq_true (p := 0 ≤ rec) (by omega), Bool.true_and]
      exact decide_eq_decide.2 (by omega))
    generalize stIn rec = E at *
    go_enter Tryd.func22, Tryd.ntmps22
    go_wp2_with fail
    go_ret
    exact ⟨by rw [HE.out]; rfl, rfl⟩
theorem stFirst_ok {rec area : Int} (h : stIn rec = true) (h0 : 0 ≤ area) (h1 : area ≤ 1) : stFirst rec area = 16 * rec + 8 * area := by
  have := stIn_iff.1 h
  unfold stFirst
  rw [if_pos ⟨this.1, this.2, h0, h1⟩]
theorem stFirst_no {rec area : Int} (h : stIn rec = false ∨ area < 0 ∨ 1 < area) : stFirst rec area = -1 := by
  unfold stFirst
  refine if_neg fun k => ?_
  rcases h with h | h | h
  · rw [stIn_ok k.1 k.2.1] at h; cases h
  · omega
  · omega
set_option maxRecDepth 100000 in
set_option maxHeartbeats 1000000 in
theorem sfirst_any (rec area : Int) (w : World) : Calls Tryd.prog 15 #[.int .i64 rec, .int .i64 area] w (fun e w' => e = .returned (.int .i64 (stFirst rec area)) ∧ w = w') := by
  have HX := fun W => Lib.hid (sexists_any rec W)
  cases hin : stIn rec with
  | false =>
    rw [hin] at HX
    have HE := Lib.hid (stFirst_no (rec := rec) (area := area) (.inl hin))
    generalize stFirst rec area = E at *
    clear hin
    go_enter Tryd.func15, Tryd.ntmps15
    go_wp2_with fail
    refine (HX w).out.mono ?_
    rintro e w1 ⟨rfl, rfl⟩
    go_wp2_with fail
    go_ret
    exact ⟨by rw [HE.out]; rfl, rfl⟩
  | true =>
    rw [hin] at HX
    have hb := stIn_iff.1 hin
    obtain ⟨hr0, hr3⟩ := hb
    by_cases h0 : area < 0
    · have HE := Lib.hid (stFirst_no (rec := rec) (area := area) (.inr (.inl h0)))
      generalize stFirst rec area = E at *
      clear hin
      go_enter Tryd.func15, Tryd.ntmps15
      go_wp2_with fail
      refine (HX w).out.mono ?_
      rintro e w1 ⟨rfl, rfl⟩
      go_wp2_with fail
      go_ret
      exact ⟨by rw [HE.out]; rfl, rfl⟩
    · by_cases h2 : 2 ≤ area
      · have HE := Lib.hid (stFirst_no (rec := rec) (area := area) (.inr (.inr (by omega))))
        generalize stFirst rec area = E at *
        clear hin
        go_enter Tryd.func15, Tryd.ntmps15
        go_wp2_with fail
        refine (HX w).out.mono ?_
        rintro e w1 ⟨rfl, rfl⟩
        go_wp2_with fail
        go_ret
        exact ⟨by rw [HE.out]; rfl, rfl⟩
      · have HE := Lib.hid (stFirst_ok (area := area) hin (by omega) (by omega))
        generalize stFirst rec area = E at *
        clear hin
        go_enter Tryd.func15, Tryd.ntmps15
        go_wp2_with fail
        refine (HX w).out.mono ?_
        rintro e w1 ⟨rfl, rfl⟩
        go_wp2_with fail
        go_ret
        exact ⟨by rw [HE.out]; rfl, rfl⟩
end Go.Proofs.YtfclifolniefpaaDoor

/-
  What store.next, end, read, older and successor return: contracts by walks. No condition.
-/
namespace Go.Proofs.YtfclifolniefpaaDoor
open Go.RowKit

set_option maxRecDepth 100000 in
set_option maxHeartbeats 4000000 in
theorem snext_any (a : StA) (w : World) : Calls Tryd.prog 30 #[a.v] w (GivesS (a, noO, false) w) := by
  go_enter Tryd.func30, Tryd.ntmps30
  go_wp2_with (first
    | ((with_reducible refine wpList_at ⟨some 1, _, _, _, _, _⟩ ?_); refine wpList_box_row rfl _ _ rfl (a.cs) rfl ?_; intro w1 ra_1 s1 g1; have k1 : Below w.heap.size w w1 := grown_below g1 (Nat.le_refl _) (by simp); have B1 : Below w.heap.size w w1 := k1)
    | (with_reducible refine wpList_alloc_row (o := ⟨some 2, _, _, _, _, _⟩) rfl _ rfl zeroA zero_ac ?_; intro w2 z2_2 s2 g2; have k2 : Below w1.heap.size w1 w2 := grown_below g2 (Nat.le_refl _) (by simp); have B2 := B1.trans (k2.mono B1.size); have ra_2 := ra_1.on k2; clear ra_1)
    | (with_reducible refine wpList_alloc_row (o := ⟨some 3, _, _, _, _, _⟩) rfl _ rfl zeroO zero_so ?_; intro w3 z3_3 s3 g3; have k3 : Below w2.heap.size w2 w3 := grown_below g3 (Nat.le_refl _) (by simp); have B3 := B2.trans (k3.mono B2.size); have ra_3 := ra_2.on k3; have z2_3 := z2_2.on k3; clear ra_2 z2_2)
    | ((with_reducible refine wpList_at ⟨some 5, _, _, _, _, _⟩ ?_); refine wpList_valueG rfl _ (by exact exec_loadA _ _ rfl (w.heap.size) rfl a ra_3) ?_)
    | ((with_reducible refine wpList_at ⟨none, .store _ (.tmp 2) _, _, _, _, _⟩ ?_); refine wpList_store_all rfl _ _ _ rfl (w1.heap.size) rfl _ _ z2_3 (a.cs) rfl (a.cs_one) rfl (by kernel_rfl) ?_; intro w4 z2_4 g4; have ra_4 := ra_3.kept g4 (by simp; omega); have z3_4 := z3_3.kept g4 (by simp; omega); have B4 := below_kept B3 g4 B3.size (by rintro q hq; cases hq; omega); clear ra_3 z3_3)
    | ((with_reducible refine wpList_at ⟨none, .store _ (.tmp 3) _, _, _, _, _⟩ ?_); refine wpList_store_all rfl _ _ _ rfl (w2.heap.size) rfl _ _ z3_4 (noO.cs) rfl (noO.cs_one) rfl (by kernel_rfl) ?_; intro w5 z3_5 g5; have ra_5 := ra_4.kept g5 (by simp; omega); have z2_5 := z2_4.kept g5 (by simp; omega); have B5 := below_kept B4 g5 B4.size (by rintro q hq; cases hq; omega); clear ra_4 z2_4))
  exact bodyPost_ret (results_cells2 Tryd.results30 _ _ _ _ _ _ rfl rfl (load_ac z2_5) (load_so z3_5)) rfl ⟨rfl, B5⟩
set_option maxRecDepth 100000 in
set_option maxHeartbeats 4000000 in
theorem send_any (a : StO) (w : World) : Calls Tryd.prog 29 #[a.v] w (GivesS (noA, a, true) w) := by
  go_enter Tryd.func29, Tryd.ntmps29
  go_wp2_with (first
    | ((with_reducible refine wpList_at ⟨some 1, _, _, _, _, _⟩ ?_); refine wpList_box_row rfl _ _ rfl (a.cs) rfl ?_; intro w1 ra_1 s1 g1; have k1 : Below w.heap.size w w1 := grown_below g1 (Nat.le_refl _) (by simp); have B1 : Below w.heap.size w w1 := k1)
    | (with_reducible refine wpList_alloc_row (o := ⟨some 2, _, _, _, _, _⟩) rfl _ rfl zeroA zero_ac ?_; intro w2 z2_2 s2 g2; have k2 : Below w1.heap.size w1 w2 := grown_below g2 (Nat.le_refl _) (by simp); have B2 := B1.trans (k2.mono B1.size); have ra_2 := ra_1.on k2; clear ra_1)
    | (with_reducible refine wpList_alloc_row (o := ⟨some 3, _, _, _, _, _⟩) rfl _ rfl zeroO zero_so ?_; intro w3 z3_3 s3 g3; have k3 : Below w2.heap.size w2 w3 := grown_below g3 (Nat.le_refl _) (by simp); have B3 := B2.trans (k3.mono B2.size); have ra_3 := ra_2.on k3; have z2_3 := z2_2.on k3; clear ra_2 z2_2))
  have bq0 : Below w.heap.size w w3.drew := B3.drew
  have raq := ra_3.drew
  have z2q := z2_3.drew
  have z3q := z3_3.drew
  refine wp_region_plan (fun w' => Row w' (w.heap.size) 33 a.cs) (.take 0 <| .take 1 <| .one 2 <| .one 3 <| .take 4 <| .done) (by kernel_rfl) (by kernel_rfl) (by kernel_rfl) (fun _ _ _ _ _ h => h) raq ?_
  repeat (refine plan_take _ rfl ?_; (first | ((with_reducible refine wpQuiet_at ⟨some 6, _, _, _, _, _⟩ ?_); refine wpQuiet_valueG rfl _ (by intro _ hS; exact exec_loadO _ _ rfl (w.heap.size) rfl a hS) (wpQuiet_nil ?_); simp only [Act.put, List.setIfInBounds_toArray, List.set_cons_zero, List.set_cons_succ]) | (go_big_quiet_step ((intros; rfl)); refine wpQuiet_nil ?_)))
  refine plan_one _ rfl fun K hK => ?_
  refine step_store_all rfl _ _ _ rfl (w1.heap.size) rfl _ _ z2q (noA.cs) rfl (noA.cs_one) rfl (by kernel_rfl) ?_
  intro wu1 z2u1 gu1
  have bu1 := below_kept bq0 gu1 bq0.size (by rintro q hq; cases hq; omega)
  have rau1 := raq.kept gu1 (by simp; omega)
  have z3u1 := z3q.kept gu1 (by simp; omega)
  refine hK _ _ rau1 ?_
  clear hK K
  simp only [Act.put, List.setIfInBounds_toArray, List.set_cons_zero, List.set_cons_succ]
  refine plan_one _ rfl fun K hK => ?_
  refine step_store_all rfl _ _ _ rfl (w2.heap.size) rfl _ _ z3u1 (a.cs) rfl (a.cs_one) rfl (by kernel_rfl) ?_
  intro wu2 z3u2 gu2
  have bu2 := below_kept bu1 gu2 bu1.size (by rintro q hq; cases hq; omega)
  have rau2 := rau1.kept gu2 (by simp; omega)
  have z2u2 := z2u1.kept gu2 (by simp; omega)
  refine hK _ _ rau2 ?_
  clear hK K
  simp only [Act.put, List.setIfInBounds_toArray, List.set_cons_zero, List.set_cons_succ]
  repeat (refine plan_take _ rfl ?_; (first | ((with_reducible refine wpQuiet_at ⟨some 6, _, _, _, _, _⟩ ?_); refine wpQuiet_valueG rfl _ (by intro _ hS; exact exec_loadO _ _ rfl (w.heap.size) rfl a hS) (wpQuiet_nil ?_); simp only [Act.put, List.setIfInBounds_toArray, List.set_cons_zero, List.set_cons_succ]) | (go_big_quiet_step ((intros; rfl)); refine wpQuiet_nil ?_)))
  refine plan_done ?_
  go_wp2_with fail
  exact bodyPost_ret (results_cells2 Tryd.results29 _ _ _ _ _ _ rfl rfl (load_ac z2u2) (load_so z3u2)) rfl ⟨rfl, bu2⟩
end Go.Proofs.YtfclifolniefpaaDoor

/-
  What store.read, older, newest and successor return: contracts by walks. No condition.
-/
namespace Go.Proofs.YtfclifolniefpaaDoor
open Go.RowKit

theorem read_at (rec : Int) (k : Nat) : 16 * rec + 8 * ((k : Int) / 8) + (k : Int) % 8 = 16 * rec + (k : Int) := by omega
set_option maxRecDepth 100000 in
set_option maxHeartbeats 4000000 in
theorem sread_any (rec : Int) (k : Nat) (w : World) (hin : stIn rec = true) (hk : k < 16) : Calls Tryd.prog 31 #[.int .i64 rec, .int .i64 (k : Int)] w (GivesX (stRead rec k).v w) := by
  have HF := fun W => Lib.hid (sfirst_any rec ((k / 8 : Nat) : Int) W)
  rw [stFirst_ok hin (by omega) (by omega)] at HF
  have hrb := stIn_iff.1 hin
  have HA := Lib.hid (read_at rec k)
  have h8 : ((k / 8 : Nat) : Int) = (k : Int) / 8 := by omega
  rw [h8] at HF
  obtain ⟨hr0, hr3⟩ := hrb
  go_enter Tryd.func31, Tryd.ntmps31
  go_wp2_with (with_reducible refine wpList_alloc_row (o := ⟨some 4, _, _, _, _, _⟩) rfl _ rfl zeroA zero_ac ?_; intro w1 z4_1 s1 g1; have k1 : Below w.heap.size w w1 := grown_below g1 (Nat.le_refl _) (by simp); have B1 : Below w.heap.size w w1 := k1)
  refine ((HF _).out).mono ?_
  rintro e _ ⟨rfl, rfl⟩
  go_wp2_with ((with_reducible refine wpList_at ⟨none, .store _ (.tmp 4) _, _, _, _, _⟩ ?_); refine wpList_store_all rfl _ _ _ rfl (w.heap.size) rfl _ _ z4_1 ([.int .i64 3, .int .i64 0, .int .i64 (16 * rec + 8 * ((k : Int) / 8) + (k : Int) % 8), .string ⟨#[]⟩]) rfl (by intro u hu; simp at hu; rcases hu with rfl | rfl | rfl | rfl <;> rfl) rfl (by kernel_rfl) ?_; intro w2 z4_2 g2; have B2 := below_kept B1 g2 B1.size (by rintro q hq; cases hq; omega))
  rw [HA.out] at z4_2
  exact bodyPost_ret (results_cell1 Tryd.results31 _ _ _ _ rfl (load_ac (a := stRead rec k) z4_2)) rfl ⟨rfl, B2⟩
set_option maxRecDepth 100000 in
set_option maxHeartbeats 4000000 in
theorem solder_any (a d : StD) (w : World) : Calls Tryd.prog 50 #[a.v, d.v] w (TellsB (decide (a.n < d.n)) w) := by
  go_enter Tryd.func50, Tryd.ntmps50
  go_wp2_with (first
    | ((with_reducible refine wpList_at ⟨some 2, _, _, _, _, _⟩ ?_); refine wpList_box_row rfl _ _ rfl (a.cs) rfl ?_; intro w1 ra_1 s1 g1; have k1 : Below w.heap.size w w1 := grown_below g1 (Nat.le_refl _) (by simp); have B1 : Below w.heap.size w w1 := k1; have cra0 := ra_1.cell (j := 0) rfl; have cra1 := ra_1.cell (j := 1) rfl)
    | ((with_reducible refine wpList_at ⟨some 3, _, _, _, _, _⟩ ?_); refine wpList_box_row rfl _ _ rfl (d.cs) rfl ?_; intro w2 rb_2 s2 g2; have k2 : Below w1.heap.size w1 w2 := grown_below g2 (Nat.le_refl _) (by simp); have B2 := B1.trans (k2.mono B1.size); have ra_2 := ra_1.on k2; clear ra_1; have cra0 := ra_2.cell (j := 0) rfl; have cra1 := ra_2.cell (j := 1) rfl; have crb0 := rb_2.cell (j := 0) rfl; have crb1 := rb_2.cell (j := 1) rfl))
  go_ret
  exact ⟨rfl, B2⟩
end Go.Proofs.YtfclifolniefpaaDoor
