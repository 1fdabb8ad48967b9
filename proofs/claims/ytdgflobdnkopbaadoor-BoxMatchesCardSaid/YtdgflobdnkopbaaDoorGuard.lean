/-
  Operations under a guard whose value is known; comparisons of two digests. No condition.
-/
import Derived.Test.YtdgflobdnkopbaaDoorHashM
import Derived.Test.YtdgflobdnkopbaaDoorCmp
namespace Go.Proofs.YtdgflobdnkopbaaDoor
open Go.RowKit

section
variable {P : Program} {ops : Array Oper} {rest : List Oper} {o : Oper} {a : Act} {w : World}
theorem wpList_wantG {Q : Exit → Act → World → Prop} (hw : Region.wanted o (yielded ops a.tmps) = true)
    (h : ∀ K : Act → World → Prop, (∀ a w, wpList P ops Q rest a w → K a w) → o.wp P a w K Q) : wpList P ops Q (o :: rest) a w :=
  wpList_step fun K hK => by rw [if_pos hw]; exact h K hK
theorem wpList_valueG {Q : Exit → Act → World → Prop} (hw : Region.wanted o (yielded ops a.tmps) = true) (v : Value) (hrun : (execOp a.eval o).run P w = .ok (.value v) w)
    (h : wpList P ops Q rest (a.put o.dst v) w) : wpList P ops Q (o :: rest) a w :=
  wpList_wantG hw fun K hK => by
    unfold Oper.wp
    rw [hrun]
    exact hK _ _ h
theorem wpQuiet_valueG {C : World → Prop} {Q : Act → Prop} (hw : Region.wanted o (yielded ops a.tmps) = true) (v : Value) (hrun : ∀ w, C w → (execOp a.eval o).run P w = .ok (.value v) w)
    (h : wpQuiet P ops C Q rest (a.put o.dst v)) : wpQuiet P ops C Q (o :: rest) a := by
  show if Region.wanted o (yielded ops a.tmps) then o.quiet P a C (wpQuiet P ops C Q rest) else wpQuiet P ops C Q rest (a.put o.dst undef)
  rw [if_pos hw]
  refine ⟨v, fun w hw => ?_, h⟩
  unfold Oper.quietAt
  rw [hrun w hw]
  exact ⟨rfl, rfl⟩
theorem step_valueG {K : Act → World → Prop} {Q : Exit → Act → World → Prop} {E : Prop} (hw : Region.wanted o (yielded ops a.tmps) = true) (v : Value) (w' : World) (hrun : (execOp a.eval o).run P w = .ok (.value v) w') (h : K (a.put o.dst v) w') : if Region.wanted o (yielded ops a.tmps) = true then Oper.wp P o a w K Q else E := by
  rw [if_pos hw]
  unfold Oper.wp
  rw [hrun]
  exact h
end
section
variable {ρ : Operand → Value} {o : Oper}
theorem exec_neq16 (w : World) (x y : Operand) (ho : o.op = .binOp .neq 23 x y 23) (xs ys : List UInt8) (hx : xs.length = 16) (hy : ys.length = 16) (h1 : ρ x = .agg (bvs xs).toArray) (h2 : ρ y = .agg (bvs ys).toArray) :
    (execOp ρ o).run Tryd.prog w = .ok (.value (.bool (!(xs == ys)))) w := exec_neq_bytes w _ _ 5 16 x y ho Tryd.underlying23 Tryd.underlying5 size_u8 dig_guard xs ys hx hy h1 h2
theorem exec_eql16 (w : World) (x y : Operand) (ho : o.op = .binOp .eql 23 x y 23) (xs ys : List UInt8) (hx : xs.length = 16) (hy : ys.length = 16) (h1 : ρ x = .agg (bvs xs).toArray) (h2 : ρ y = .agg (bvs ys).toArray) :
    (execOp ρ o).run Tryd.prog w = .ok (.value (.bool (xs == ys))) w := exec_eql_bytes w _ _ 5 16 x y ho Tryd.underlying23 Tryd.underlying5 size_u8 dig_guard xs ys hx hy h1 h2
theorem exec_load16 (w : World) (x : Operand) (ho : o.op = .load 23 x) (ad : Addr) (hx : ρ x = .pointer (some ad)) (d : List UInt8) (hd : d.length = 16) (hc : ∀ j u, (bvs d)[j]? = some u → w.cell? (ad.add j) = some u) :
    (execOp ρ o).run Tryd.prog w = .ok (.value (.agg (bvs d).toArray)) w := exec_load w _ x ho ad hx (bvs d) hc _ Tryd.underlying23 rfl (b16_size _ hd)
end
theorem exec_load1 {P : Program} {ρ : Operand → Value} {o : Oper} (w : World) (ty : TypeId) (x : Operand) (ho : o.op = .load ty x) (ad : Addr) (hx : ρ x = .pointer (some ad)) (v : Value) (hc : w.cell? ad = some v) (d : TypeDesc)
    (hu : P.underlying ty = some d) (hd : (match d with | .struct _ | .array _ _ => true | _ => false) = false) : (execOp ρ o).run P w = .ok (.value v) w := by
  have hagg : (isAgg ty).run P w = .ok false w := by
    unfold isAgg
    rw [Sem.run_bind, run_underlying hu w]
    cases d <;> simp_all
  unfold execOp
  simp [ho, hx, Instr.loadAt, Instr.sureAddr, loadVar, Sem.run_bind, hagg, hc]
/-- A bool comes back; nothing that was there has changed. -/
def TellsB (b : Bool) (w : World) (e : Ending) (w' : World) : Prop := e = .returned (.bool b) ∧ Below w.heap.size w w'
end Go.Proofs.YtdgflobdnkopbaaDoor
