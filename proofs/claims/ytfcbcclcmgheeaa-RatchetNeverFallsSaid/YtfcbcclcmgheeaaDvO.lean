/-
  What device.readCell, pulseCell and readSector return: contracts by walks. Condition: bounded lengths.
-/
import Derived.Test.YtfcbcclcmgheeaaDvC
namespace Go.Proofs.Ytfcbcclcmgheeaa
open Go.RowKit

section
variable {P : Program}
theorem run_store_part (w : World) (ty : TypeId) (g j : Nat) (e : TypeId) (cs : List Value) (hr : Row w g e cs) (vs : List Value) (h1 : ∀ u ∈ vs, u.oneCell' = true) (hj : j + vs.length ≤ cs.length) (hi : (P.info? ty).map (·.size) = some vs.length) :
    ∃ w', (storeVar ty ⟨g, j, none⟩ (.agg vs.toArray)).run P w = .ok () w' ∧ Row w' g e (cs.take j ++ vs ++ cs.drop (j + vs.length)) ∧ w'.heap.size = w.heap.size ∧ w.grownBy w' (some g) := by
  have hst := run_storeCells_at P g j e vs 0 cs.toArray w hr (by simpa using hj) h1
  refine ⟨w.setRow g (cs.take j ++ vs ++ cs.drop (j + vs.length)).toArray, ?_, setRow_heap w g _ _ e _ hr, by simp, ⟨rfl, rfl, rfl, by simp, fun k _ hk => setRow_other w g k _ (fun he => hk (by rw [he]))⟩⟩
  cases hq : P.info? ty with
  | none => simp [hq] at hi
  | some i =>
    have hs : i.size = vs.length := by simpa [hq] using hi
    simp only [Nat.add_zero] at hst
    simp [storeVar, Sem.run_bind, sizeOf, typeInfo, hq, hs, Value.cells, hst]
theorem wpList_store_part {ops : Array Oper} {rest : List Oper} {o : Oper} {a : Act} {w : World} {Q : Exit → Act → World → Prop} (hgd : o.guard = none) (ty : TypeId) (x v : Operand) (ho : o.op = .store ty x v) (g j : Nat) (hx : a.eval x = .pointer (some ⟨g, j, none⟩)) (e : TypeId) (cs : List Value) (hr : Row w g e cs) (vs : List Value) (hv : a.eval v = .agg vs.toArray)
    (h1 : ∀ u ∈ vs, u.oneCell' = true) (hj : j + vs.length ≤ cs.length) (hi : (P.info? ty).map (·.size) = some vs.length)
    (h : ∀ w', Row w' g e (cs.take j ++ vs ++ cs.drop (j + vs.length)) → w.grownBy w' (some g) → wpList P ops Q rest (a.put o.dst undef) w') : wpList P ops Q (o :: rest) a w := by
  obtain ⟨w', hrun, h2, h3, h4⟩ := run_store_part (P := P) w ty g j e cs hr vs h1 hj hi
  refine wpList_plain hgd fun K hK => ?_
  unfold Oper.wp execOp
  simp only [ho, hx, hv, Instr.storeAt, Instr.sureAddr, Sem.run_bind, Sem.run_pure, Result.andThen_ok, hrun]
  exact hK _ _ (h _ h2 h4)
/-- Three results, the first two of them in memory. -/
theorem results_cells2 {fn : Func} {p q t : Tmp} {ty tz : TypeId} (h : fn.results = #[.cell p ty, .cell q tz, .tmp t]) (tmps : Array Value) (w : World) (ad bd : Addr) (x y : Value) (hp : tmps.getD p undef = .pointer (some ad)) (hq : tmps.getD q undef = .pointer (some bd))
    (hl : (loadVar ty ad).run P w = .ok x w) (hm : (loadVar tz bd).run P w = .ok y w) : (results fn tmps).run P w = .ok (.tuple #[x, y, tmps.getD t undef]) w := by
  have hp' : tmps[p]?.getD undef = .pointer (some ad) := by simpa using hp
  have hq' : tmps[q]?.getD undef = .pointer (some bd) := by simpa using hq
  simp [results, h, hp', hq', asAddr, hl, hm]
end
theorem load_hw {w : World} {g : Nat} {e : TypeId} {h : Hw} (hr : Row w g e h.cs) (h16 : h.rt.length = 16) : (loadVar 64 ⟨g, 0, none⟩).run Try.prog w = .ok h.v w := run_loadVar_at (P := Try.prog) w 64 ⟨g, 0, none⟩ h.cs hr.cells _ Try.underlying64 rfl (hw_size h16)
theorem load_rs {w : World} {g : Nat} {e : TypeId} {r : DvR} (hr : Row w g e r.cs) : (loadVar 78 ⟨g, 0, none⟩).run Try.prog w = .ok r.v w := run_loadVar_at (P := Try.prog) w 78 ⟨g, 0, none⟩ r.cs hr.cells _ Try.underlying78 rfl (by kernel_rfl)
end Go.Proofs.Ytfcbcclcmgheeaa
