/-
  Slices of slices of bytes: how they read. No condition.
-/
import Derived.Test.YtojdondipkbjhaaDoorShaM
import Derived.Test.YtojdondipkbjhaaDoorBase
namespace Go.Proofs.YtojdondipkbjhaaDoor
open Go.RowKit

/-- One part: a slice of bytes and what it reads as. -/
structure Part where
  A : Option Addr
  n : Nat
  c : Nat
  l : List UInt8
def Part.v (p : Part) : Value := .slice p.A p.n p.c
def PartOK (w : World) (B : Nat) (p : Part) : Prop := Reads w B 1 p.A p.n (bvs p.l) ∧ p.n ≤ p.c
/-- A slice of slices reads as parts. -/
def ReadsP (w : World) (B : Nat) (A : Option Addr) (n : Nat) (ps : List Part) : Prop := Reads w B 1 A n (ps.map Part.v) ∧ ∀ p ∈ ps, PartOK w B p
section
variable {w w' : World} {B n : Nat} {A : Option Addr} {ps : List Part}
theorem ReadsP.len (h : ReadsP w B A n ps) : ps.length = n := by have := h.1.1; rw [List.length_map] at this; omega
theorem ReadsP.below (h : ReadsP w B A n ps) (hb : Below B w w') : ReadsP w' B A n ps := ⟨h.1.below hb, fun p hp => ⟨(h.2 p hp).1.below hb, (h.2 p hp).2⟩⟩
theorem ReadsP.more {B' : Nat} (h : ReadsP w B A n ps) (hB : B ≤ B') : ReadsP w B' A n ps := ⟨h.1.more hB, fun p hp => ⟨(h.2 p hp).1.more hB, (h.2 p hp).2⟩⟩
theorem ReadsP.on (h : ReadsP w w.heap.size A n ps) (hb : Below w.heap.size w w') : ReadsP w' w'.heap.size A n ps := (h.below hb).more hb.size
theorem ReadsP.at_ (h : ReadsP w B A n ps) {k : Nat} (hk : k < n) : ∃ ad p, A = some ad ∧ ad.block < B ∧ ps[k]? = some p ∧ w.cell? (ad.add k) = some (.slice p.A p.n p.c) ∧ Reads w B 1 p.A p.n (bvs p.l) ∧ p.n ≤ p.c := by
  obtain ⟨ad, u, hA, hb, hx, hc⟩ := h.1.at_ hk
  rw [List.getElem?_map, Option.map_eq_some_iff] at hx
  obtain ⟨p, hp, rfl⟩ := hx
  have := h.2 p (List.mem_of_getElem? hp)
  exact ⟨ad, p, hA, hb, hp, hc, this.1, this.2⟩
end
/-- The parts' bytes, one behind the other. -/
def allBytes (ps : List Part) : List UInt8 := ps.flatMap Part.l
theorem allBytes_succ (ps : List Part) (k : Nat) (p : Part) (h : ps[k]? = some p) : allBytes (ps.take (k + 1)) = allBytes (ps.take k) ++ p.l := by
  rw [List.take_add_one, h]
  unfold allBytes
  simp

theorem readsP_two (w : World) (t : TypeId) (A1 A2 : Option Addr) (n1 c1 n2 c2 : Nat) (l1 l2 : List UInt8) (h1 : Reads w w.heap.size 1 A1 n1 (bvs l1)) (hc1 : n1 ≤ c1) (h2 : Reads w w.heap.size 1 A2 n2 (bvs l2)) (hc2 : n2 ≤ c2) :
    ReadsP (w.alloc (.cells #[.slice A1 n1 c1, .slice A2 n2 c2] t)) (w.alloc (.cells #[.slice A1 n1 c1, .slice A2 n2 c2] t)).heap.size (some ⟨w.heap.size, 0, none⟩) 2 [⟨A1, n1, c1, l1⟩, ⟨A2, n2, c2, l2⟩] := by
  have hsz : (w.alloc (.cells #[.slice A1 n1 c1, .slice A2 n2 c2] t)).heap.size = w.heap.size + 1 := by simp
  refine ⟨⟨rfl, fun _ => ⟨_, rfl, by rw [hsz]; exact Nat.lt_succ_self _, (row_alloc w t [.slice A1 n1 c1, .slice A2 n2 c2]).cells⟩⟩, fun p hp => ?_⟩
  simp only [List.mem_cons, List.not_mem_nil, or_false] at hp
  rcases hp with rfl | rfl
  · exact ⟨(h1.alloc (Nat.le_refl _) _).more (by rw [hsz]; omega), hc1⟩
  · exact ⟨(h2.alloc (Nat.le_refl _) _).more (by rw [hsz]; omega), hc2⟩
theorem parts_two_le (p q : Part) (m : Nat) (hp : p.n ≤ m) (hq : q.n ≤ m) : ∀ r ∈ [p, q], r.n ≤ m := by
  intro r hr
  simp only [List.mem_cons, List.not_mem_nil, or_false] at hr
  rcases hr with rfl | rfl
  · exact hp
  · exact hq
theorem allBytes_two (p q : Part) : allBytes [p, q] = p.l ++ q.l := by simp [allBytes]
end Go.Proofs.YtojdondipkbjhaaDoor
