/-
  Slices of structs, element by element; comparisons of structs, field by field. Over any program. No condition.
-/
import Derived.Test.YtgliealofieenaaDoorBase
namespace Go.Proofs.YtgliealofieenaaDoor
open Go.RowKit

theorem flT_at {α : Type} (g : α → List Value) (m : Nat) (hg : ∀ a, (g a).length = m) : ∀ (l : List α) (i : Nat) (a : α), l[i]? = some a → ∀ j u, (g a)[j]? = some u → (l.flatMap g)[i * m + j]? = some u
  | [], i, a, h, _, _, _ => by simp at h
  | x :: l, 0, a, h, j, u, hu => by
    simp at h
    subst h
    rw [List.flatMap_cons, Nat.zero_mul, Nat.zero_add, List.getElem?_append_left (List.getElem?_eq_some_iff.1 hu).1]
    exact hu
  | x :: l, i + 1, a, h, j, u, hu => by
    rw [List.flatMap_cons, List.getElem?_append_right (by rw [hg, Nat.succ_mul]; omega), hg, show (i + 1) * m + j - m = i * m + j by rw [Nat.succ_mul]; omega]
    exact flT_at g m hg l i a (by simpa using h) j u hu
theorem Reads.elemT {α : Type} {g : α → List Value} {m : Nat} (hg : ∀ a, (g a).length = m) {w : World} {B n : Nat} {A : Option Addr} {l : List α} (h : Reads w B m A n (l.flatMap g)) {i : Nat} {a : α} (ha : l[i]? = some a) (hi : i < n) :
    ∃ ad, A = some ad ∧ ad.block < B ∧ ∀ j u, (g a)[j]? = some u → w.cell? ((ad.add (i * m)).add j) = some u := by
  obtain ⟨ad, hA, hb, hc⟩ := h.2 (by omega)
  refine ⟨ad, hA, hb, fun j u hu => ?_⟩
  rw [add_of_add]
  exact hc _ _ (flT_at g m hg l i a ha j u hu)
theorem flT_len {α : Type} (g : α → List Value) (m : Nat) (hg : ∀ a, (g a).length = m) (l : List α) : (l.flatMap g).length = l.length * m := by
  induction l with
  | nil => simp
  | cons f l ih => rw [List.flatMap_cons, List.length_append, hg, ih, List.length_cons, Nat.succ_mul]; omega
theorem Reads.lenT {α : Type} {g : α → List Value} {m : Nat} (hm : 0 < m) (hg : ∀ a, (g a).length = m) {w : World} {B n : Nat} {A : Option Addr} {l : List α} (h : Reads w B m A n (l.flatMap g)) : l.length = n := by
  have := h.1
  rw [flT_len g m hg] at this
  exact Nat.eq_of_mul_eq_mul_right hm this
theorem flT_one {α : Type} {g : α → List Value} (hg : ∀ a, ∀ u ∈ g a, u.oneCell' = true) (l : List α) : ∀ u ∈ l.flatMap g, u.oneCell' = true := fun u hu => by
  obtain ⟨r, _, h⟩ := List.mem_flatMap.1 hu
  exact hg r u h
section
variable {P : Program} (w : World)
theorem eqT_and (d : Nat) (xs ys : Array Value) (f : Field) (fs : List Field) (u v : Value) (b c : Bool) (hn : f.name ≠ "_") (hx : (part f.type xs f.offset).run P w = .ok u w) (hy : (part f.type ys f.offset).run P w = .ok v w)
    (he : (Op.equalIn d f.type u v).run P w = .ok b w) (hr : (Op.eqFields d xs ys fs).run P w = .ok c w) : (Op.eqFields d xs ys (f :: fs)).run P w = .ok (b && c) w := by
  rw [Op.eqFields]
  cases b <;> simp [hn, hr, hx, hy, he]
theorem partT_one (e : TypeId) (cs : Array Value) (i : Nat) (v : Value) (ha : (isAgg e).run P w = .ok false w) (hv : cs[i]? = some v) : (part e cs i).run P w = .ok v w := by
  simp [part, ha, hv]
theorem wpQuietT_at {ops : Array Oper} {C : World → Prop} {Q : Act → Prop} {rest : List Oper} (o : Oper) {a : Act} (h : wpQuiet P ops C Q (o :: rest) a) : wpQuiet P ops C Q (o :: rest) a := h
end
end Go.Proofs.YtgliealofieenaaDoor
