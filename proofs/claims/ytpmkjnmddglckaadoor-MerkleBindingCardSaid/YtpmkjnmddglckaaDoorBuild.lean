/-
  The box of 'append(s, x)' where x is an array or a struct; '[]T{x}' of one element. Over any program. No condition.
-/
import Derived.Test.YtpmkjnmddglckaaDoorConv
namespace Go.Proofs.YtpmkjnmddglckaaDoor
open Go.RowKit

theorem foldl_set (l : List Value) : ∀ (k : Nat) (acc : Array Value), k + l.length ≤ acc.size →
    (l.zipIdx k).foldl (fun cs x => cs.setIfInBounds x.2 x.1) acc = (acc.toList.take k ++ l ++ acc.toList.drop (k + l.length)).toArray := by
  induction l with
  | nil => intro k acc _; simp
  | cons v rest ih =>
    intro k acc h
    rw [List.zipIdx_cons, List.foldl_cons, ih (k + 1) _ (by simp at h ⊢; omega)]
    congr 1
    have e := list_seg_step acc.toList k v rest (by simp at h ⊢; omega)
    simpa [Array.toList_setIfInBounds, Nat.add_assoc] using e
theorem fill_one (Z : Array Value) (cs : List Value) (hZ : Z.size = cs.length) : Instr.fill (fun i => some (i * cs.length, cs.length)) Z [(0, .agg cs.toArray)] = some cs.toArray := by
  have hb := foldl_set cs 0 Z (by omega)
  have e1 : Z.toList.take 0 ++ cs ++ Z.toList.drop (0 + cs.length) = cs := by
    rw [List.drop_of_length_le (by simp; omega)]
    simp
  rw [e1] at hb
  simp [Instr.fill, Value.cells, hZ, hb]
section
variable {P : Program}
theorem exec_slice1 {ρ : Operand → Value} {o : Oper} (w : World) (t e : TypeId) (x : Operand) (ho : o.op = .buildSlice t 1 #[(0, x)]) (ht : P.underlying t = some (.slice e)) (i : TypeInfo) (z : Value) (hi : P.info? e = some i) (hz : i.zero = some z)
    (cs : List Value) (hs : i.size = cs.length) (hpos : 0 < cs.length) (hsmall : cs.length ≤ 1000) (hx : ρ x = .agg cs.toArray) :
    (execOp ρ o).run P w = .ok (.value (.slice (some ⟨w.heap.size, 0, none⟩) 1 1)) (w.alloc (.cells cs.toArray e)) := by
  have hf := fill_one ((Array.range cs.length).map (z.cells[· % z.cells.size]!)) cs (by simp)
  have h24 : ¬ (16777216 < cs.length) := by omega
  have h0 : ¬ cs = [] := by intro h; rw [h] at hpos; simp at hpos
  unfold execOp
  simp [ho, hx, Instr.buildSlice, run_underlying ht, sizeOf, typeInfo, zeroValue, hi, hz, hs, h24, h0, newRow, hf]
end
end Go.Proofs.YtpmkjnmddglckaaDoor
