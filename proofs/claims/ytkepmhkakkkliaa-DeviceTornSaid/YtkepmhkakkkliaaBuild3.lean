/-
  '[]T{x, y, ..}' of arrays. Over any program. No condition.
-/
import Derived.Test.YtkepmhkakkkliaaBase
namespace Go.Proofs.Ytkepmhkakkkliaa
open Go.RowKit

theorem foldl_setAt (off : Nat) (l : List Value) : ∀ (k : Nat) (acc : Array Value), off + k + l.length ≤ acc.size →
    (l.zipIdx k).foldl (fun cs x => cs.setIfInBounds (off + x.2) x.1) acc = (acc.toList.take (off + k) ++ l ++ acc.toList.drop (off + k + l.length)).toArray := by
  induction l with
  | nil => intro k acc _; simp
  | cons v rest ih =>
    intro k acc h
    rw [List.zipIdx_cons, List.foldl_cons, ih (k + 1) _ (by simp at h ⊢; omega)]
    congr 1
    have e := list_seg_step acc.toList (off + k) v rest (by simp at h ⊢; omega)
    simpa [Array.toList_setIfInBounds, Nat.add_assoc] using e
/-- The parts of such a literal. -/
def rowParts : Nat → List (List Value) → List (Nat × Value)
  | _, [] => []
  | k, l :: ls => (k, .agg l.toArray) :: rowParts (k + 1) ls
theorem fill_rows (s : Nat) (ls : List (List Value)) : ∀ (k : Nat) (Z : Array Value), (∀ l ∈ ls, l.length = s) → (k + ls.length) * s ≤ Z.size →
    Instr.fill (fun i => some (i * s, s)) Z (rowParts k ls) = some (Z.toList.take (k * s) ++ ls.flatten ++ Z.toList.drop ((k + ls.length) * s)).toArray := by
  induction ls with
  | nil => intro k Z _ _; simp [rowParts, Instr.fill]
  | cons l rest ih =>
    intro k Z hl hZ
    have h0 := hl l (by simp)
    have hk : (k + 1 + rest.length) * s ≤ Z.size := by simpa [Nat.add_assoc, Nat.add_comm 1] using hZ
    have hk1 : k * s + s ≤ Z.size := by
      have : (k + 1) * s ≤ (k + 1 + rest.length) * s := Nat.mul_le_mul_right _ (by omega)
      rw [Nat.add_mul, Nat.one_mul] at this
      omega
    have hf := foldl_setAt (k * s) l 0 Z (by omega)
    rw [Nat.add_zero] at hf
    have hr := ih (k + 1) (Z.toList.take (k * s) ++ l ++ Z.toList.drop (k * s + l.length)).toArray (fun x hx => hl x (by simp [hx])) (by simp; omega)
    have e1 : (Z.toList.take (k * s) ++ l ++ Z.toList.drop (k * s + l.length)).take ((k + 1) * s) = Z.toList.take (k * s) ++ l := by
      refine List.take_left' ?_
      simp
      rw [Nat.add_mul, Nat.one_mul]
      omega
    have e2 : (Z.toList.take (k * s) ++ l ++ Z.toList.drop (k * s + l.length)).drop ((k + 1 + rest.length) * s) = Z.toList.drop ((k + (l :: rest).length) * s) := by
      rw [List.drop_append, List.drop_of_length_le (by simp; rw [show k + 1 + rest.length = k + (1 + rest.length) from by omega, Nat.add_mul, Nat.add_mul, Nat.one_mul]; omega), List.nil_append, List.drop_drop]
      congr 1
      simp only [List.length_append, List.length_take, Array.length_toList, List.length_cons]
      have : k * s + s + rest.length * s = (k + 1 + rest.length) * s := by rw [Nat.add_mul, Nat.add_mul, Nat.one_mul]
      rw [show k + (rest.length + 1) = k + 1 + rest.length from by omega]
      omega
    rw [List.toList_toArray, e1, e2] at hr
    rw [h0] at hf hr
    have hn : ¬ Z.size < k * s + s := by omega
    simp only [List.length_cons] at hr
    simp [rowParts, Instr.fill, Value.cells, h0, hn, hf]
    simpa [List.append_assoc] using hr
section
variable {P : Program}
theorem exec_sliceN {ρ : Operand → Value} {o : Oper} (w : World) (t e : TypeId) (n : Nat) (xs : Array (Nat × Operand)) (ho : o.op = .buildSlice t n xs) (ht : P.underlying t = some (.slice e)) (i : TypeInfo) (z : Value) (hi : P.info? e = some i) (hz : i.zero = some z)
    (s : Nat) (ls : List (List Value)) (hs : i.size = s) (hpos : 0 < s) (hsmall : n * s ≤ 16777216) (hn : ls.length = n) (hn0 : 0 < n) (hl : ∀ l ∈ ls, l.length = s) (hx : (xs.map fun p => (p.1, ρ p.2)).toList = rowParts 0 ls) :
    (execOp ρ o).run P w = .ok (.value (.slice (some ⟨w.heap.size, 0, none⟩) n n)) (w.alloc (.cells ls.flatten.toArray e)) := by
  have hf := fill_rows s ls 0 ((Array.range (n * s)).map (z.cells[· % z.cells.size]!)) hl (by simp [hn])
  have e1 : ((Array.range (n * s)).map (z.cells[· % z.cells.size]!)).toList.drop ((0 + ls.length) * s) = [] := List.drop_of_length_le (by simp [hn])
  rw [e1, Nat.zero_mul, List.take_zero, List.nil_append, List.append_nil] at hf
  have h24 : ¬ (16777216 < n * s) := by omega
  have h0 : ¬ n * s = 0 := by
    have := Nat.mul_pos hn0 hpos
    omega
  have hx2 : List.map (fun x : Nat × Operand => (x.1, ρ x.2)) xs.toList = rowParts 0 ls := by rw [← hx]; simp
  unfold execOp
  simp [ho, Instr.buildSlice, run_underlying ht, sizeOf, typeInfo, zeroValue, hi, hz, hs, h24, newRow]
  rw [if_neg h0, hx2, hf]
  simp
theorem exec_slice3 {ρ : Operand → Value} {o : Oper} (w : World) (t e : TypeId) (x y q : Operand) (ho : o.op = .buildSlice t 3 #[(0, x), (1, y), (2, q)]) (ht : P.underlying t = some (.slice e)) (i : TypeInfo) (z : Value) (hi : P.info? e = some i) (hz : i.zero = some z)
    (a b c : List Value) (s : Nat) (hs : i.size = s) (hpos : 0 < s) (hsmall : s ≤ 1000) (ha : a.length = s) (hb : b.length = s) (hc : c.length = s) (hx : ρ x = .agg a.toArray) (hy : ρ y = .agg b.toArray) (hq : ρ q = .agg c.toArray) :
    (execOp ρ o).run P w = .ok (.value (.slice (some ⟨w.heap.size, 0, none⟩) 3 3)) (w.alloc (.cells (a ++ (b ++ c)).toArray e)) := by
  have h := exec_sliceN (P := P) (ρ := ρ) (o := o) w t e 3 _ ho ht i z hi hz s [a, b, c] hs hpos (by omega) rfl (by omega) (fun l hl => by
    simp only [List.mem_cons, List.not_mem_nil, or_false] at hl
    rcases hl with rfl | rfl | rfl <;> assumption) (by simp [rowParts, hx, hy, hq])
  have e2 : [a, b, c].flatten = a ++ (b ++ c) := by simp
  rw [h, e2]
end
end Go.Proofs.Ytkepmhkakkkliaa
