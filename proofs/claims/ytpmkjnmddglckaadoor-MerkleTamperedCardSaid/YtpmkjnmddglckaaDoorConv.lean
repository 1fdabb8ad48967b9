/-
  'string(b)' and '[]byte(s)' in a walk. Over any program. No condition.
-/
import Derived.Test.YtpmkjnmddglckaaDoorCells
import Derived.Laws.IdiomStrings
namespace Go.Proofs.YtpmkjnmddglckaaDoor
open Go.RowKit

section
variable {P : Program}
theorem exec_string_of {ρ : Operand → Value} {o : Oper} (w : World) (src dst e : TypeId) (x : Operand) (ho : o.op = .convert src dst x) (hs : P.underlying src = some (.slice e)) (he : P.underlying e = some (.int .u8)) (hd : P.underlying dst = some .string)
    {B : Nat} {A : Option Addr} {n c : Nat} {l : List UInt8} (hx : ρ x = .slice A n c) (hr : Reads w B 1 A n (bvs l)) : (execOp ρ o).run P w = .ok (.value (.string ⟨l.toArray⟩)) w := by
  have hl : l.length = n := by have := hr.1; rw [bvs_length] at this; omega
  have h : (convert src dst (.slice A n c)).run P w = .ok (.string ⟨l.toArray⟩) w := by
    rcases A with _ | ad
    · rw [run_convert_bytes_string w src dst e none n c hs he hd]
      have hm : n = 0 := by
        rcases Nat.eq_zero_or_pos n with h0 | h0
        · exact h0
        · obtain ⟨ad, h, _⟩ := hr.2 h0
          cases h
      have : l = [] := List.eq_nil_of_length_eq_zero (by omega)
      subst this
      rfl
    · rw [← hl]
      refine run_convert_bytes_back w src dst e ad c l hs he hd fun j hj => ?_
      obtain ⟨ad', h, _, hc⟩ := hr.2 (by omega)
      injection h with h
      subst h
      exact hc j _ (by unfold bvs; rw [List.getElem?_map, List.getElem?_eq_getElem hj]; rfl)
  unfold execOp
  simp [ho, hx, h]
theorem exec_bytes_of {ρ : Operand → Value} {o : Oper} (w : World) (src dst e : TypeId) (x : Operand) (ho : o.op = .convert src dst x) (hs : P.underlying src = some .string) (he : P.underlying e = some (.int .u8)) (hd : P.underlying dst = some (.slice e))
    {s : ByteArray} (hx : ρ x = .string s) : ∃ A c w', (execOp ρ o).run P w = .ok (.value (.slice A s.size c)) w' ∧ s.size ≤ c ∧ Reads w' w'.heap.size 1 A s.size (bvs s.data.toList) ∧ Below w.heap.size w w' := by
  have h := run_bytes_of_string (P := P) w src dst e s hs hd he
  have hrun : (execOp ρ o).run P w = .ok (.value (.slice (some ⟨w.heap.size, 0, none⟩) s.size (grownCap w s.size 0 e)))
      (w.drew.alloc (.cells (bytesRow s (grownCap w s.size 0 e)) e ((bytesRow s (grownCap w s.size 0 e)).size, (bytesRow s (grownCap w s.size 0 e)).size + 1))) := by
    unfold execOp
    simp [ho, hx, h]
  refine ⟨_, _, _, hrun, grownCap_ge _ _ _ _, ⟨?_, fun _ => ⟨⟨w.heap.size, 0, none⟩, rfl, by simp, fun j u hu => ?_⟩⟩, ((Below.refl _ _).drew).alloc (Nat.le_refl _) _⟩
  · rw [bvs_length]; simp
  · refine World.news_of_block (Go.heap_alloc_new w.drew _) j u ?_
    have hj : j < (bvs s.data.toList).length := by
      rcases Nat.lt_or_ge j (bvs s.data.toList).length with h | h
      · exact h
      · rw [List.getElem?_eq_none h] at hu; cases hu
    unfold bytesRow
    simp only [Array.toList_append, Array.toList_map]
    rw [List.getElem?_append_left (by rw [List.length_map]; rw [bvs_length] at hj; exact hj)]
    exact hu
theorem wpList_valueW {ops : Array Oper} {rest : List Oper} {o : Oper} {a : Act} {w w' : World} {Q : Exit → Act → World → Prop} (hgd : o.guard = none) (v : Value) (hrun : (execOp a.eval o).run P w = .ok (.value v) w')
    (h : wpList P ops Q rest (a.put o.dst v) w') : wpList P ops Q (o :: rest) a w :=
  wpList_plain hgd fun K hK => by
    unfold Oper.wp
    rw [hrun]
    exact hK _ _ h
end
end Go.Proofs.YtpmkjnmddglckaaDoor
