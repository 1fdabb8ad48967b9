/-
  A local array or struct: a new block that is stored into as a whole. Over any program. No condition.
-/
import Derived.Test.YtpmkjnmddglckaaDoorWords
import Derived.Stop.BytesEq
namespace Go.Proofs.YtpmkjnmddglckaaDoor
open Go.RowKit

/-- The world behind 'var d T = x': a new block, whose cells are then set. -/
def laid (w : World) (o : Obj) (cs : Array Value) : World := (w.alloc o).setRow w.heap.size cs
section
variable (w : World)
theorem laid_size (o : Obj) (cs : Array Value) : (laid w o cs).heap.size = w.heap.size + 1 := by simp [laid]
theorem laid_grown (o : Obj) (cs : Array Value) : w.grownBy (laid w o cs) none :=
  ⟨rfl, rfl, rfl, by rw [laid_size]; omega, fun k hk _ => by
    unfold laid
    rw [setRow_other _ _ _ _ (by omega)]
    exact Below.heap_alloc w o k hk⟩
theorem laid_heap (cur : Array Value) (e : TypeId) (cs : Array Value) : (laid w (.cells cur e) cs).heap[w.heap.size]? = some (.cells cs e (0, 0)) :=
  setRow_heap _ _ cur cs e _ (Go.heap_alloc_new w _)
theorem laid_below {B : Nat} {w0 : World} (h : Below B w0 w) (hB : B ≤ w.heap.size) (o : Obj) (cs : Array Value) : Below B w0 (laid w o cs) :=
  h.grown (laid_grown w o cs) hB (by simp)
theorem laid_own {base : Nat} {e : TypeId} {size n : Nat} {v : Value} {xs : List Value} (h : w.ownsRow base e size v n xs) (o : Obj) (cs : Array Value) : (laid w o cs).ownsRow base e size v n xs :=
  h.kept (laid_grown w o cs) (by cases hv : v.ownBlock <;> simp)
theorem laid_cells (cur : Array Value) (e : TypeId) (cs : Array Value) : ∀ j u, cs.toList[j]? = some u → (laid w (.cells cur e) cs).cell? ((⟨w.heap.size, 0, none⟩ : Addr).add j) = some u :=
  World.news_of_block (laid_heap w cur e cs)
end

/-- What the call owns is not touched by a callee. -/
theorem own_below {w w' : World} {base : Nat} {e : TypeId} {size n : Nat} {v : Value} {xs : List Value} (h : w.ownsRow base e size v n xs) (hb : Below w.heap.size w w') : w'.ownsRow base e size v n xs := by
  obtain ⟨h1, h2⟩ := h
  refine ⟨h1, ?_⟩
  rcases h2 with h2 | ⟨g, cap, cur, hv, hg, hh, r⟩
  · exact .inl h2
  · exact .inr ⟨g, cap, cur, hv, hg, (hb.block g (Array.getElem?_eq_some_iff.1 hh).1).trans hh, r⟩

/-- Three results, the first of them in memory. -/
theorem results_cell3 {P : Program} {fn : Func} {p t u : Tmp} {ty : TypeId} (h : fn.results = #[.cell p ty, .tmp t, .tmp u]) (tmps : Array Value) (w : World) (ad : Addr) (x : Value) (hp : tmps.getD p undef = .pointer (some ad))
    (hl : (loadVar ty ad).run P w = .ok x w) : (results fn tmps).run P w = .ok (.tuple #[x, tmps.getD t undef, tmps.getD u undef]) w := by
  have hp' : tmps[p]?.getD undef = .pointer (some ad) := by simpa using hp
  simp [results, h, hp', asAddr, hl]

/-! ## An operation whose value is known, in a walk of the text's order -/
section
variable {P : Program}
theorem wanted_plain {ops : Array Oper} {o : Oper} {a : Act} (hgd : o.guard = none) : Region.wanted o (yielded ops a.tmps) = true := by simp [Region.wanted, hgd]
theorem wpQuiet_value {ops : Array Oper} {C : World → Prop} {Q : Act → Prop} {o : Oper} {rest : List Oper} {a : Act} (hgd : o.guard = none) (v : Value) (hrun : ∀ w, C w → (execOp a.eval o).run P w = .ok (.value v) w)
    (h : wpQuiet P ops C Q rest (a.put o.dst v)) : wpQuiet P ops C Q (o :: rest) a := by
  show if Region.wanted o (yielded ops a.tmps) then o.quiet P a C (wpQuiet P ops C Q rest) else wpQuiet P ops C Q rest (a.put o.dst undef)
  rw [if_pos (wanted_plain hgd)]
  refine ⟨v, fun w hw => ?_, h⟩
  unfold Oper.quietAt
  rw [hrun w hw]
  exact ⟨rfl, rfl⟩
theorem wpQuiet_valueK {ops : Array Oper} {C : World → Prop} {Q : Act → Prop} {o : Oper} {rest : List Oper} {a : Act} (hgd : o.guard = none) (v : Value) (hrun : ∀ w, C w → (execOp a.eval o).run P w = .ok (.value v) w)
    (h : ∀ K : Act → Prop, (∀ a, wpQuiet P ops C Q rest a → K a) → K (a.put o.dst v)) : wpQuiet P ops C Q (o :: rest) a := wpQuiet_value hgd v hrun (h _ fun _ h => h)
theorem wpList_value {ops : Array Oper} {rest : List Oper} {o : Oper} {a : Act} {w : World} {Q : Exit → Act → World → Prop} (hgd : o.guard = none) (v : Value) (hrun : (execOp a.eval o).run P w = .ok (.value v) w)
    (h : wpList P ops Q rest (a.put o.dst v) w) : wpList P ops Q (o :: rest) a w :=
  wpList_plain hgd fun K hK => by
    unfold Oper.wp
    rw [hrun]
    exact hK _ _ h
theorem exec_load {ρ : Operand → Value} {o : Oper} (w : World) (ty : TypeId) (x : Operand) (ho : o.op = .load ty x) (ad : Addr) (hx : ρ x = .pointer (some ad)) (cs : List Value) (hc : ∀ j u, cs[j]? = some u → w.cell? (ad.add j) = some u) (d : TypeDesc)
    (hu : P.underlying ty = some d) (hd : (match d with | .struct _ | .array _ _ => true | _ => false) = true) (hi : (P.info? ty).map (·.size) = some cs.length) :
    (execOp ρ o).run P w = .ok (.value (.agg cs.toArray)) w := by
  unfold execOp
  simp only [ho, hx, Instr.loadAt, Instr.sureAddr, Sem.run_bind, Sem.run_pure, Result.andThen_ok, run_loadVar_at w ty ad cs hc d hu hd hi]
theorem exec_eql_bytes {ρ : Operand → Value} {o : Oper} (w : World) (t yt e : TypeId) (n : Nat) (x y : Operand) (ho : o.op = .binOp .eql t x y yt) (ht : P.underlying t = some (.array n e)) (he : P.underlying e = some (.int .u8)) (hsz : ∀ w, (sizeOf e).run P w = .ok 1 w)
    (hg : P.eqGuardType P.depth t = false) (xs ys : List UInt8) (hx : xs.length = n) (hy : ys.length = n) (h1 : ρ x = .agg (bvs xs).toArray) (h2 : ρ y = .agg (bvs ys).toArray) :
    (execOp ρ o).run P w = .ok (.value (.bool (xs == ys))) w := by
  have h := run_eql_bytes (P := P) w t e n ht he hsz xs ys hx hy
  have e1 : xs.map Extern.Stop.cell = bvs xs := rfl
  have e2 : ys.map Extern.Stop.cell = bvs ys := rfl
  rw [e1, e2] at h
  unfold execOp
  simp [ho, h1, h2, eqGuard, hg, h]
theorem exec_neq_bytes {ρ : Operand → Value} {o : Oper} (w : World) (t yt e : TypeId) (n : Nat) (x y : Operand) (ho : o.op = .binOp .neq t x y yt) (ht : P.underlying t = some (.array n e)) (he : P.underlying e = some (.int .u8)) (hsz : ∀ w, (sizeOf e).run P w = .ok 1 w)
    (hg : P.eqGuardType P.depth t = false) (xs ys : List UInt8) (hx : xs.length = n) (hy : ys.length = n) (h1 : ρ x = .agg (bvs xs).toArray) (h2 : ρ y = .agg (bvs ys).toArray) :
    (execOp ρ o).run P w = .ok (.value (.bool (!(xs == ys)))) w := by
  have h := run_equalIn_bytes (P := P) w 9998 t e n ht he hsz xs ys hx hy
  have e1 : xs.map Extern.Stop.cell = bvs xs := rfl
  have e2 : ys.map Extern.Stop.cell = bvs ys := rfl
  rw [e1, e2] at h
  unfold execOp
  simp [ho, h1, h2, eqGuard, hg, binOp, Op.equal, Op.maxDepth, h]
end
end Go.Proofs.YtpmkjnmddglckaaDoor
