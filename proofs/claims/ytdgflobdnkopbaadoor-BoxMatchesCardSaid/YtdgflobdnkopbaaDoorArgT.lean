/-
  A law's argument that is a struct whose fields are integers, digests and signatures, opened field by field. Over any program. No condition.
-/
import Derived.Test.YtdgflobdnkopbaaDoorArgD
namespace Go.Proofs.YtdgflobdnkopbaaDoor
open Go.RowKit Go.ChangeShapes Go.WideShapes Go.ChangeAt Go.Deep

theorem cut_up (cs : List Value) (o k q : Nat) (h : o + k = q) : cs.drop o = (cs.drop o).take k ++ cs.drop q := by
  rw [← h, ← List.drop_drop, List.take_append_drop]
theorem cut_end (cs : List Value) {q : Nat} (h : cs.length = q) : cs.drop q = [] := List.drop_eq_nil_of_le (by omega)
section
variable {H : Type} {enc : TypeId × Value → H} {P : Program} {W : World}
def Fielded (enc : TypeId × Value → H) (P : Program) (W : World) (m : Nat) (fs : Array Field) (cs : List Value) : Prop :=
  ∀ (j : Nat) (f : Field), fs[j]? = some f → ∃ y, DataW.trod enc P W 0 (fun _ => true) true m f.type ((cs.drop f.offset).take (P.cellsOf f.type)) = some y
theorem fielded_of_trod {t : TypeId} {fs : Array Field} {fuel : Nat} {cs : List Value} {x : DataW H × List MemPlace} (ht : P.underlying t = some (.struct fs)) (hf : DataW.trod enc P W 0 (fun _ => true) true fuel t cs = some x) :
    cs.length = P.cellsOf t ∧ ∃ m, Fielded enc P W m fs cs := by
  obtain ⟨xs, n, _, rfl, hl, hlen, hx⟩ := DataW.trod_struct ht hf
  refine ⟨hl, n, fun j f hj => ?_⟩
  have hj' := (Array.getElem?_eq_some_iff.1 hj).1
  exact ⟨xs[j], (hx j f hj).trans (List.getElem?_eq_getElem (by omega))⟩
theorem arg_fields {t : TypeId} {fs : Array Field} {v : Value} {d : DataW H} {p : List MemPlace} {r : Reach} {b : Nat} (ht : P.underlying t = some (.struct fs)) (hok : Value.okWide P W r b t v) (h : DataW.Trod enc P W 0 (fun _ => true) true t v d p) :
    ∃ cs m, v = .agg cs.toArray ∧ cs.length = P.cellsOf t ∧ Fielded enc P W m fs cs := by
  obtain ⟨cs, rfl, _⟩ := okWide_struct ht hok
  obtain ⟨fuel, hf⟩ := h
  obtain ⟨hl, m, hm⟩ := fielded_of_trod (cs := cs.toList) ht hf
  exact ⟨cs.toList, m, rfl, hl, hm⟩
theorem field_int {m : Nat} {fs : Array Field} {cs : List Value} (hF : Fielded enc P W m fs cs) (j off : Nat) {t : TypeId} {k : IntKind} (hf : ∃ f, fs[j]? = some f ∧ f.type = t ∧ f.offset = off) (ht : P.underlying t = some (.int k)) (hc : P.cellsOf t = 1) :
    ∃ n, (cs.drop off).take 1 = [.int k n] ∧ (Lit.int k n).wf = true := by
  obtain ⟨f, h1, h2, h3⟩ := hf
  obtain ⟨y, hy⟩ := hF j f h1
  rw [h2, h3, hc] at hy
  obtain ⟨n, h4, _, h5⟩ := DataW.trod_int ht hy
  exact ⟨n, h4, h5⟩
theorem field_str {m : Nat} {fs : Array Field} {cs : List Value} (hF : Fielded enc P W m fs cs) (j off : Nat) {t : TypeId} (hf : ∃ f, fs[j]? = some f ∧ f.type = t ∧ f.offset = off) (ht : P.underlying t = some .string) (hc : P.cellsOf t = 1) :
    ∃ s, (cs.drop off).take 1 = [.string s] ∧ s.size ≤ maxLen := by
  obtain ⟨f, h1, h2, h3⟩ := hf
  obtain ⟨y, hy⟩ := hF j f h1
  rw [h2, h3, hc] at hy
  obtain ⟨s, h4, _, h5⟩ := DataW.trod_string ht hy
  exact ⟨s, h4, h5⟩
theorem field_dig {m : Nat} {fs : Array Field} {cs : List Value} (hF : Fielded enc P W m fs cs) (j off : Nat) {t u : TypeId} (hf : ∃ f, fs[j]? = some f ∧ f.type = t ∧ f.offset = off) (ht : P.underlying t = some (.array 16 u)) (hu : P.underlying u = some (.int .u8)) (hc : P.cellsOf t = 16) (hcu : P.cellsOf u = 1) (hl : off + 16 ≤ cs.length) :
    ∃ l : List UInt8, (cs.drop off).take 16 = bvs l ∧ l.length = 16 := by
  obtain ⟨f, h1, h2, h3⟩ := hf
  obtain ⟨y, hy⟩ := hF j f h1
  rw [h2, h3, hc] at hy
  exact dig_of_trod ht hu hcu (by rw [List.length_take, List.length_drop]; omega) hy
theorem digs_of_trod {t e u : TypeId} {cs : List Value} {fuel : Nat} {x : DataW H × List MemPlace} (ht : P.underlying t = some (.slice e)) (he : P.underlying e = some (.array 16 u)) (hu : P.underlying u = some (.int .u8)) (hc : P.cellsOf e = 16) (hcu : P.cellsOf u = 1)
    (hf : DataW.trod enc P W 0 (fun _ => true) true fuel t cs = some x) : ∃ A n c ds, cs = [.slice A n c] ∧ n ≤ c ∧ n ≤ 9223372036854775807 ∧ ReadsD W A n ds := by
  rcases open_slice ht hf with ⟨hcs, hx⟩ | ⟨a, n, c, m, q, D, Pl, hcs, _, hl, hm, hmm, hx, hel⟩
  · exact ⟨none, 0, 0, [], hcs, Nat.le_refl _, by omega, ReadsD.nil_⟩
  · simp at hmm
    subst hmm
    obtain ⟨ds, h1, h2, h3⟩ := digs_of_cells (W := W) (a := a) n (fun i hi => by
      obtain ⟨cs', g1, g2⟩ := hel i (by omega)
      rw [hc] at g1
      obtain ⟨_, g4, g5⟩ := World.cells?_some g1
      obtain ⟨d, g6, g7⟩ := dig_of_trod he hu hcu g4 g2
      refine ⟨d, g7, fun j u hj => ?_⟩
      have hj16 : j < 16 := by
        rcases Nat.lt_or_ge j 16 with h | h
        · exact h
        · rw [List.getElem?_eq_none (by rw [bvs_length]; omega)] at hj; cases hj
      have := g5 j hj16
      rw [add_of_add] at this
      rw [this, g6]
      exact hj)
    refine ⟨some a, n, _, ds, hcs, hl, Nat.le_trans hl (Nat.le_trans hm (show maxLen ≤ 9223372036854775807 by decide)), ⟨by rw [bvs_length, flatten_len ds h2, h1], fun hn => ⟨a, rfl, ?_, h3⟩⟩, h2⟩
    obtain ⟨cs', g1, _⟩ := hel 0 (by omega)
    rw [hc] at g1
    have := World.cells?_block g1 (by omega)
    rwa [block_of_add] at this
theorem field_digs {m : Nat} {fs : Array Field} {cs : List Value} (hF : Fielded enc P W m fs cs) (j off : Nat) {t e u : TypeId} (hf : ∃ f, fs[j]? = some f ∧ f.type = t ∧ f.offset = off) (hct : P.cellsOf t = 1) (ht : P.underlying t = some (.slice e)) (he : P.underlying e = some (.array 16 u)) (hu : P.underlying u = some (.int .u8)) (hc : P.cellsOf e = 16) (hcu : P.cellsOf u = 1) :
    ∃ A n c ds, (cs.drop off).take 1 = [.slice A n c] ∧ n ≤ c ∧ n ≤ 9223372036854775807 ∧ ReadsD W A n ds := by
  obtain ⟨f, h1, h2, h3⟩ := hf
  obtain ⟨y, hy⟩ := hF j f h1
  rw [h2, h3, hct] at hy
  exact digs_of_trod ht he hu hc hcu hy
/-- A field that is a struct itself. -/
theorem field_struct {m : Nat} {fs gs : Array Field} {cs : List Value} (hF : Fielded enc P W m fs cs) (j off k : Nat) {t : TypeId} (hf : ∃ f, fs[j]? = some f ∧ f.type = t ∧ f.offset = off) (ht : P.underlying t = some (.struct gs)) (hc : P.cellsOf t = k) :
    ((cs.drop off).take k).length = k ∧ ∃ m', Fielded enc P W m' gs ((cs.drop off).take k) := by
  obtain ⟨f, h1, h2, h3⟩ := hf
  obtain ⟨y, hy⟩ := hF j f h1
  rw [h2, h3, hc] at hy
  obtain ⟨hl, hm⟩ := fielded_of_trod ht hy
  exact ⟨hl.trans hc, hm⟩
end
end Go.Proofs.YtdgflobdnkopbaaDoor
