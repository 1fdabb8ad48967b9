/-
  A law's argument that is a struct, opened field by field: integers, strings, structs. Over any program. No condition.
-/
import Derived.Test.YtfcbcclcmgheeaaArgsB
import Derived.Deep.Slices
import Derived.Lib.SmallJoins
namespace Go.Proofs.Ytfcbcclcmgheeaa
open Go.RowKit Go.ChangeShapes Go.WideShapes Go.ChangeAt Go.Deep

theorem cut_up (cs : List Value) (o k q : Nat) (h : o + k = q) : cs.drop o = (cs.drop o).take k ++ cs.drop q := by
  rw [← h, ← List.drop_drop, List.take_append_drop]
theorem cut_end (cs : List Value) {q : Nat} (h : cs.length = q) : cs.drop q = [] := List.drop_eq_nil_of_le (by omega)
section
variable {H : Type} {enc : TypeId × Value → H} {P : Program} {W : World}
def Fielded (enc : TypeId × Value → H) (P : Program) (W : World) (m : Nat) (fs : Array Field) (cs : List Value) : Prop :=
  ∀ (j : Nat) (f : Field), fs[j]? = some f → ∃ y, DataW.trod enc P W 0 (fun _ => true) true m f.type ((cs.drop f.offset).take (P.cellsOf f.type)) = some y
theorem fielded_of_trod {t : TypeId} {fs : Array Field} {fuel : Nat} {cs : List Value} {x : DataW H × List MemPlace} (ht : P.underlying t = some (.struct fs)) (hf : DataW.trod enc P W 0 (fun _ => true) true fuel t cs = some x) :
    cs.length = P.cellsOf t ∧ ∃ m, Fielded enc P W m fs cs := by
  obtain ⟨xs, n, _, rfl, hl, hlen, hx⟩ := DataW.trod_struct ht hf
  refine ⟨hl, n, fun j f hj => ?_⟩
  have hj' := (Array.getElem?_eq_some_iff.1 hj).1
  exact ⟨xs[j], (hx j f hj).trans (List.getElem?_eq_getElem (by omega))⟩
theorem arg_fields {t : TypeId} {fs : Array Field} {v : Value} {d : DataW H} {p : List MemPlace} {r : Reach} {b : Nat} (ht : P.underlying t = some (.struct fs)) (hok : Value.okWide P W r b t v) (h : DataW.Trod enc P W 0 (fun _ => true) true t v d p) :
    ∃ cs m, v = .agg cs.toArray ∧ cs.length = P.cellsOf t ∧ Fielded enc P W m fs cs := by
  obtain ⟨cs, rfl, _⟩ := okWide_struct ht hok
  obtain ⟨fuel, hf⟩ := h
  obtain ⟨hl, m, hm⟩ := fielded_of_trod (cs := cs.toList) ht hf
  exact ⟨cs.toList, m, rfl, hl, hm⟩
theorem field_int {m : Nat} {fs : Array Field} {cs : List Value} (hF : Fielded enc P W m fs cs) (j off : Nat) {t : TypeId} {k : IntKind} (hf : ∃ f, fs[j]? = some f ∧ f.type = t ∧ f.offset = off) (ht : P.underlying t = some (.int k)) (hc : P.cellsOf t = 1) :
    ∃ n, (cs.drop off).take 1 = [.int k n] ∧ (Lit.int k n).wf = true := by
  obtain ⟨f, h1, h2, h3⟩ := hf
  obtain ⟨y, hy⟩ := hF j f h1
  rw [h2, h3, hc] at hy
  obtain ⟨n, h4, _, h5⟩ := DataW.trod_int ht hy
  exact ⟨n, h4, h5⟩
theorem field_str {m : Nat} {fs : Array Field} {cs : List Value} (hF : Fielded enc P W m fs cs) (j off : Nat) {t : TypeId} (hf : ∃ f, fs[j]? = some f ∧ f.type = t ∧ f.offset = off) (ht : P.underlying t = some .string) (hc : P.cellsOf t = 1) :
    ∃ s, (cs.drop off).take 1 = [.string s] ∧ s.size ≤ maxLen := by
  obtain ⟨f, h1, h2, h3⟩ := hf
  obtain ⟨y, hy⟩ := hF j f h1
  rw [h2, h3, hc] at hy
  obtain ⟨s, h4, _, h5⟩ := DataW.trod_string ht hy
  exact ⟨s, h4, h5⟩
/-- A field that is a struct itself. -/
theorem field_struct {m : Nat} {fs gs : Array Field} {cs : List Value} (hF : Fielded enc P W m fs cs) (j off k : Nat) {t : TypeId} (hf : ∃ f, fs[j]? = some f ∧ f.type = t ∧ f.offset = off) (ht : P.underlying t = some (.struct gs)) (hc : P.cellsOf t = k) :
    ((cs.drop off).take k).length = k ∧ ∃ m', Fielded enc P W m' gs ((cs.drop off).take k) := by
  obtain ⟨f, h1, h2, h3⟩ := hf
  obtain ⟨y, hy⟩ := hF j f h1
  rw [h2, h3, hc] at hy
  obtain ⟨hl, hm⟩ := fielded_of_trod ht hy
  exact ⟨hl.trans hc, hm⟩
end
end Go.Proofs.Ytfcbcclcmgheeaa
