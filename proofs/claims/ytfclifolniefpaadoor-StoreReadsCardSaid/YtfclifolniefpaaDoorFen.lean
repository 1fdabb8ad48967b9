/-
  Single operations in a walk inside a fence. Over any program. No condition.
-/
import Derived.Test.YtfclifolniefpaaDoorBase
import Derived.RangeFuncNested
import Derived.RangeFuncBound
import Derived.RangeFuncCalls
import Derived.RangeFuncLeaves
import Derived.RangeFuncFrom
import Derived.Shelf.Abstract
import Derived.Shelf.RegionOpen
import Derived.OwnWalkIn
import Derived.TacticsInMore
import Derived.LoopNIn
import Derived.LoopIn
import Derived.Maps.AppendAt
set_option linter.unusedSimpArgs false
set_option linter.unusedVariables false
namespace Go.Proofs.YtfclifolniefpaaDoor
open Go.RowKit Go.Shelf

/-! ## Single operations inside a fence -/
section
variable {F : Fence} {n : Nat} {P : Program} {ops : Array Oper} {rest : List Oper} {o : Oper} {a : Act} {w w' : World} {Q : Exit → Act → World → Prop}
theorem wpListIn_val (hgd : o.guard = none) (hd : ∀ c, o.op ≠ .defer c) (hF : ∀ f, F.fn f) (v : Value) (hrun : (execOp a.eval o).run P w = .ok (.value v) w')
    (h : wpListIn F n P ops Q rest (a.put o.dst v) w') : wpListIn F n P ops Q (o :: rest) a w := by
  refine wpListIn_plain hgd fun K hK => ?_
  unfold Oper.wpIn
  refine ⟨fun f _ => hF f, ?_⟩
  rw [Oper.semAt_plain F _ _ hd, hrun]
  exact hK _ _ h
theorem wpListIn_none (hgd : o.guard = none) (hd : ∀ c, o.op ≠ .defer c) (hF : ∀ f, F.fn f) (hrun : (execOp a.eval o).run P w = .ok .skip w')
    (h : wpListIn F n P ops Q rest (a.put o.dst undef) w') : wpListIn F n P ops Q (o :: rest) a w := by
  refine wpListIn_plain hgd fun K hK => ?_
  unfold Oper.wpIn
  refine ⟨fun f _ => hF f, ?_⟩
  rw [Oper.semAt_plain F _ _ hd, hrun]
  exact hK _ _ h
theorem wpListIn_alloc_row (hgd : o.guard = none) (hF : ∀ f, F.fn f) (ty : TypeId) (ho : o.op = .alloc ty) (cs : List Value) (hz : (P.info? ty).map (fun i => i.zero.map (·.cells)) = some (some cs.toArray))
    (h : ∀ w', Row w' w.heap.size ty cs → w.heap.size < w'.heap.size → w.grownBy w' none → wpListIn F n P ops Q rest (a.put o.dst (.pointer (some ⟨w.heap.size, 0, none⟩))) w') : wpListIn F n P ops Q (o :: rest) a w := by
  cases hq : P.info? ty with
  | none => simp [hq] at hz
  | some i =>
    cases hz0 : i.zero with
    | none => simp [hq, hz0] at hz
    | some z =>
      have hzc : z.cells = cs.toArray := by simpa [hq, hz0] using hz
      refine wpListIn_val hgd (by rw [ho]; intro c hc; cases hc) hF _ (exec_alloc_row o ty ho z (by simp [hq, hz0])) ?_
      rw [hzc]
      exact h _ (row_alloc w ty cs) (by simp) (World.grownBy_alloc w _ none)
theorem wpListIn_store_all (hgd : o.guard = none) (hF : ∀ f, F.fn f) (ty : TypeId) (x v : Operand) (ho : o.op = .store ty x v) (g : Nat) (hx : a.eval x = .pointer (some ⟨g, 0, none⟩)) (e : TypeId) (cur : List Value) (hr : Row w g e cur) (cs : List Value) (hv : a.eval v = .agg cs.toArray)
    (h1 : ∀ u ∈ cs, u.oneCell' = true) (hl : cur.length = cs.length) (hi : (P.info? ty).map (·.size) = some cs.length)
    (h : ∀ w', Row w' g e cs → w.grownBy w' (some g) → wpListIn F n P ops Q rest (a.put o.dst undef) w') : wpListIn F n P ops Q (o :: rest) a w := by
  refine wpListIn_none (w' := w.setRow g cs.toArray) hgd (by rw [ho]; intro c hc; cases hc) hF ?_ (h _ (setRow_heap w g _ _ e _ hr) ⟨rfl, rfl, rfl, by simp, fun k _ hk => setRow_other w g k _ (fun he => hk (by rw [he]))⟩)
  unfold execOp
  simp only [ho, hx, hv, Instr.storeAt, Instr.sureAddr, Sem.run_bind, Sem.run_pure, Result.andThen_ok, run_storeVar_at w ty g cur.toArray e hr cs.toArray (by simpa using h1) (by simpa using hl) (by simpa using hi)]
theorem wpListIn_store_one (hgd : o.guard = none) (hF : ∀ f, F.fn f) (ty : TypeId) (x v : Operand) (ho : o.op = .store ty x v) (g : Nat) (hx : a.eval x = .pointer (some ⟨g, 0, none⟩)) (e : TypeId) (u0 : Value) (hr : Boxed w g e u0) (u : Value) (hv : a.eval v = u)
    (h1 : u.oneCell' = true) (hi : (P.info? ty).map (·.size) = some 1) (h : ∀ w', Boxed w' g e u → w.grownBy w' (some g) → wpListIn F n P ops Q rest (a.put o.dst undef) w') : wpListIn F n P ops Q (o :: rest) a w := by
  obtain ⟨w', hrun, h2, _, h4⟩ := run_store_elem (P := P) w ty g 0 e [u0] hr u h1 (by simp) hi
  refine wpListIn_none (w' := w') hgd (by rw [ho]; intro c hc; cases hc) hF ?_ (h _ h2 h4)
  unfold execOp
  simp only [ho, hx, hv, Instr.storeAt, Instr.sureAddr, Sem.run_bind, Sem.run_pure, Result.andThen_ok, hrun]
theorem wpListIn_box_row (hgd : o.guard = none) (hF : ∀ f, F.fn f) (ty : TypeId) (x : Operand) (ho : o.op = .box ty x) (cs : List Value) (hx : (a.eval x).cells = cs.toArray)
    (h : ∀ w', Row w' w.heap.size ty cs → w.heap.size < w'.heap.size → w.grownBy w' none → wpListIn F n P ops Q rest (a.put o.dst (.pointer (some ⟨w.heap.size, 0, none⟩))) w') : wpListIn F n P ops Q (o :: rest) a w := by
  refine wpListIn_val (w' := w.alloc (.cells cs.toArray ty)) hgd (by rw [ho]; intro c hc; cases hc) hF (.pointer (some ⟨w.heap.size, 0, none⟩)) ?_ (h _ (row_alloc w ty cs) (by simp) (World.grownBy_alloc w _ none))
  unfold execOp
  simp [ho, Instr.box, newVar, newRow, hx]
theorem wpListIn_store_elem (hgd : o.guard = none) (hF : ∀ f, F.fn f) (ty : TypeId) (x v : Operand) (ho : o.op = .store ty x v) (g j : Nat) (hx : a.eval x = .pointer (some ⟨g, j, none⟩)) (e : TypeId) (cs : List Value) (hr : Row w g e cs) (u : Value) (hv : a.eval v = u)
    (h1 : u.oneCell' = true) (hj : j < cs.length) (hi : (P.info? ty).map (·.size) = some 1) (h : ∀ w', Row w' g e (cs.set j u) → w.grownBy w' (some g) → wpListIn F n P ops Q rest (a.put o.dst undef) w') : wpListIn F n P ops Q (o :: rest) a w := by
  obtain ⟨w', hrun, h2, _, h4⟩ := run_store_elem (P := P) w ty g j e cs hr u h1 hj hi
  refine wpListIn_none (w' := w') hgd (by rw [ho]; intro c hc; cases hc) hF ?_ (h _ h2 h4)
  unfold execOp
  simp only [ho, hx, hv, Instr.storeAt, Instr.sureAddr, Sem.run_bind, Sem.run_pure, Result.andThen_ok, hrun]
/-- The walk inside a fence stands at this operation. -/
theorem wpListIn_at (o : Oper) {a : Act} {w : World} {Q : Exit → Act → World → Prop} (h : wpListIn F n P ops Q (o :: rest) a w) : wpListIn F n P ops Q (o :: rest) a w := h
end

theorem zip_one (t : Array Value) (q : Nat) (v : Value) : Array.foldl (fun t (x : Nat × Value) => match x with | (p, v) => t.setIfInBounds p v) t #[(q, v)] = t.setIfInBounds q v := by simp

/-- A row speaks of cells alone. -/
theorem row_own {β : Type} (B : Nat) (t : TypeId) (f : β → List Value) : Own (fun s W => Row W B t (f s)) := fun s X Y row hs hg hrow => by
  refine Row.kept hs hg fun e' => ?_
  obtain ⟨o, ho, hc⟩ := hrow B e'.symm
  have h : X.heap[B]? = some (.cells (f s).toArray t (0, 0)) := hs
  rw [h] at ho
  cases ho
  cases hc
end Go.Proofs.YtfclifolniefpaaDoor
