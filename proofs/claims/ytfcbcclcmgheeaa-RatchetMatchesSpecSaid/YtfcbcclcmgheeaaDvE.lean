/-
  What device.accesses, faultAt, bytes.Equal and slices.EqualFunc return: contracts by walks. Condition: bounded lengths.
-/
import Derived.Test.YtfcbcclcmgheeaaDvK
namespace Go.Proofs.Ytfcbcclcmgheeaa
open Go.RowKit

/-- The functions of the accesses. -/
def accF (f : FuncId) : Value := .func (.func f) #[] #[]
def zeroT5 : List Value := [.nilFunc, .nilFunc, .nilFunc, .nilFunc, .nilFunc]
/-- Faults as cells. -/
def fvs (l : List DvF) : List Value := l.flatMap DvF.cs
theorem fvs_len (l : List DvF) : (fvs l).length = l.length * 3 := by
  induction l with
  | nil => rfl
  | cons f l ih => simp only [fvs, List.flatMap_cons, List.length_append, List.length_cons] at *; rw [ih]; show 3 + _ = _; omega
theorem flat_at {α : Type} (g : α → List Value) (m : Nat) (hg : ∀ a, (g a).length = m) : ∀ (l : List α) (i : Nat) (a : α), l[i]? = some a → ∀ j u, (g a)[j]? = some u → (l.flatMap g)[i * m + j]? = some u
  | [], i, a, h, _, _, _ => by simp at h
  | x :: l, 0, a, h, j, u, hu => by
    simp at h
    subst h
    rw [List.flatMap_cons, Nat.zero_mul, Nat.zero_add, List.getElem?_append_left (List.getElem?_eq_some_iff.1 hu).1]
    exact hu
  | x :: l, i + 1, a, h, j, u, hu => by
    rw [List.flatMap_cons, List.getElem?_append_right (by rw [hg, Nat.succ_mul]; omega), hg, show (i + 1) * m + j - m = i * m + j by rw [Nat.succ_mul]; omega]
    exact flat_at g m hg l i a (by simpa using h) j u hu
theorem Reads.elem {α : Type} {g : α → List Value} {m : Nat} (hg : ∀ a, (g a).length = m) {w : World} {B n : Nat} {A : Option Addr} {l : List α} (h : Reads w B m A n (l.flatMap g)) {i : Nat} {a : α} (ha : l[i]? = some a) (hi : i < n) :
    ∃ ad, A = some ad ∧ ad.block < B ∧ ∀ j u, (g a)[j]? = some u → w.cell? ((ad.add (i * m)).add j) = some u := by
  obtain ⟨ad, hA, hb, hc⟩ := h.2 (by omega)
  refine ⟨ad, hA, hb, fun j u hu => ?_⟩
  rw [add_of_add]
  exact hc _ _ (flat_at g m hg l i a ha j u hu)
theorem DvF.cs_len (f : DvF) : f.cs.length = 3 := rfl
theorem DvA.cs_len (f : DvA) : f.cs.length = 4 := rfl
theorem DvR.cs_len (f : DvR) : f.cs.length = 2 := rfl
theorem flat_len {α : Type} (g : α → List Value) (m : Nat) (hg : ∀ a, (g a).length = m) (l : List α) : (l.flatMap g).length = l.length * m := by
  induction l with
  | nil => simp
  | cons f l ih => rw [List.flatMap_cons, List.length_append, hg, ih, List.length_cons, Nat.succ_mul]; omega
theorem Reads.len_of {α : Type} {g : α → List Value} {m : Nat} (hm : 0 < m) (hg : ∀ a, (g a).length = m) {w : World} {B n : Nat} {A : Option Addr} {l : List α} (h : Reads w B m A n (l.flatMap g)) : l.length = n := by
  have := h.1
  rw [flat_len g m hg] at this
  exact Nat.eq_of_mul_eq_mul_right hm this
theorem DvF.zero_cs : noF.cs = zeroT := rfl
theorem bytes_beq (l k : List UInt8) : (l == k) = decide (l = k) := by
  by_cases h : l = k <;> simp [h]
theorem bk_ne_at {ps qs : List Part} {k : Nat} {p q : Part} (hp : ps[k]? = some p) (hq : qs[k]? = some q) (h : p.l ≠ q.l) : decide (bk ps = bk qs) = false := by
  refine decide_eq_false fun e => h ?_
  have h1 := bk_get hp
  rw [e, bk_get hq] at h1
  exact (Option.some.inj h1).symm
theorem bk_snoc {ps qs : List Part} {k : Nat} {p q : Part} (hp : ps[k]? = some p) (hq : qs[k]? = some q) (h : (bk ps).take k = (bk qs).take k) (e : p.l = q.l) : (bk ps).take (k + 1) = (bk qs).take (k + 1) := by
  rw [List.take_add_one, List.take_add_one, h, bk_get hp, bk_get hq, e]
end Go.Proofs.Ytfcbcclcmgheeaa
