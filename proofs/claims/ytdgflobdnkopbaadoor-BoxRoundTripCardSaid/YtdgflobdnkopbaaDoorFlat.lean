/-
  Slices of digests of 16 bytes: how they read, their elements and their parts. No condition.
-/
import Derived.Test.YtdgflobdnkopbaaDoorBase
namespace Go.Proofs.YtdgflobdnkopbaaDoor
open Go.RowKit

def Len16 (ds : List (List UInt8)) : Prop := ∀ d ∈ ds, d.length = 16
theorem flatten_len (ds : List (List UInt8)) (h : Len16 ds) : ds.flatten.length = ds.length * 16 := by
  induction ds with
  | nil => rfl
  | cons d t ih =>
    have h1 := h d (by simp)
    have h2 := ih fun y hy => h y (by simp [hy])
    rw [List.flatten_cons, List.length_append, List.length_cons, h1, h2]
    omega
theorem flatten_take (ds : List (List UInt8)) (h : Len16 ds) (k : Nat) : (ds.take k).flatten = ds.flatten.take (k * 16) := by
  induction k generalizing ds with
  | zero => simp
  | succ k ih =>
    cases ds with
    | nil => simp
    | cons d t =>
      have h1 := h d (by simp)
      have h2 := ih t fun y hy => h y (by simp [hy])
      rw [List.take_succ_cons, List.flatten_cons, List.flatten_cons, h2, List.take_append, h1, show (k + 1) * 16 - 16 = k * 16 from by omega, List.take_of_length_le (l := d) (by omega)]
theorem flatten_snoc (ds : List (List UInt8)) (k : Nat) (d : List UInt8) (h : ds[k]? = some d) : (ds.take (k + 1)).flatten = (ds.take k).flatten ++ d := by
  rw [List.take_add_one, h]
  simp
theorem Reads.dig_at {w : World} {B n : Nat} {A : Option Addr} {ds : List (List UInt8)} (h16 : Len16 ds) (h : Reads w B 16 A n (bvs ds.flatten)) {k : Nat} (hk : k < n) :
    ∃ ad d, A = some ad ∧ ad.block < B ∧ ds[k]? = some d ∧ d.length = 16 ∧ ∀ j u, (bvs d)[j]? = some u → w.cell? (ad.add (k * 16 + j)) = some u := by
  obtain ⟨hl, h⟩ := h
  obtain ⟨ad, rfl, hb, hc⟩ := h (by omega)
  rw [bvs_length, flatten_len ds h16] at hl
  have hkl : k < ds.length := by omega
  refine ⟨ad, ds[k], rfl, hb, List.getElem?_eq_getElem hkl, h16 _ (List.getElem_mem hkl), fun j u hu => hc _ u ?_⟩
  have hd := h16 _ (List.getElem_mem hkl)
  have hj : j < 16 := by
    rcases Nat.lt_or_ge j 16 with h | h
    · exact h
    · rw [List.getElem?_eq_none (by rw [bvs_length]; omega)] at hu; cases hu
  have hs := flatten_snoc ds k _ (List.getElem?_eq_getElem hkl)
  rw [flatten_take ds h16, flatten_take ds h16] at hs
  have e : ds.flatten[k * 16 + j]? = (ds[k])[j]? := by
    have h1 : (ds.flatten.take ((k + 1) * 16))[k * 16 + j]? = ds.flatten[k * 16 + j]? := List.getElem?_take_of_lt (by omega)
    rw [← h1, hs, List.getElem?_append_right (by rw [List.length_take, flatten_len ds h16]; omega)]
    congr 1
    rw [List.length_take, flatten_len ds h16]
    omega
  unfold bvs at hu ⊢
  rw [List.getElem?_map] at hu ⊢
  rw [e]
  exact hu
theorem flatten_drop (ds : List (List UInt8)) (h : Len16 ds) (k : Nat) : (ds.drop k).flatten = ds.flatten.drop (k * 16) := by
  have e : ds.flatten = (ds.take k).flatten ++ (ds.drop k).flatten := by rw [← List.flatten_append, List.take_append_drop]
  have hl : (ds.take k).flatten.length = min k ds.length * 16 := by rw [flatten_len _ (fun d hd => h d (List.mem_of_mem_take hd)), List.length_take]
  rcases Nat.le_total k ds.length with hk | hk
  · rw [Nat.min_eq_left hk] at hl
    rw [e]
    exact (List.drop_left' hl).symm
  · rw [List.drop_of_length_le hk, List.drop_of_length_le (by rw [flatten_len ds h]; omega)]
    rfl
theorem Len16.take {ds : List (List UInt8)} (h : Len16 ds) (k : Nat) : Len16 (ds.take k) := fun d hd => h d (List.mem_of_mem_take hd)
theorem Len16.drop {ds : List (List UInt8)} (h : Len16 ds) (k : Nat) : Len16 (ds.drop k) := fun d hd => h d (List.mem_of_mem_drop hd)
/-- A slice of digests: how it reads, its first ones and its last ones. -/
def ReadsD (w : World) (A : Option Addr) (n : Nat) (ds : List (List UInt8)) : Prop := Reads w w.heap.size 16 A n (bvs ds.flatten) ∧ Len16 ds
section
variable {w w' : World} {A : Option Addr} {n : Nat} {ds : List (List UInt8)}
theorem ReadsD.len (h : ReadsD w A n ds) : ds.length = n := by
  have := h.1.1; rw [bvs_length, flatten_len ds h.2] at this; omega
theorem ReadsD.on (h : ReadsD w A n ds) (hb : Below w.heap.size w w') : ReadsD w' A n ds := ⟨h.1.on hb, h.2⟩
theorem ReadsD.first (h : ReadsD w A n ds) {k : Nat} (hk : k ≤ n) : ReadsD w A k (ds.take k) := by
  refine ⟨?_, h.2.take k⟩
  have e := h.1.take hk
  rw [flatten_take ds h.2]
  unfold bvs at e ⊢
  rw [List.map_take]
  exact e
theorem ReadsD.last (h : ReadsD w A n ds) {k cap : Nat} (hk : k ≤ n) (hc : n ≤ cap) : ReadsD w (if cap = k then A else A.map (·.add (k * 16))) (n - k) (ds.drop k) := by
  refine ⟨?_, h.2.drop k⟩
  have e := h.1.cut hk hc
  rw [flatten_drop ds h.2]
  unfold bvs at e ⊢
  rw [List.map_drop]
  exact e
theorem ReadsD.nil_ : ReadsD w none 0 [] := ⟨Reads.nil_, fun _ h => by simp at h⟩
end
end Go.Proofs.YtdgflobdnkopbaaDoor
