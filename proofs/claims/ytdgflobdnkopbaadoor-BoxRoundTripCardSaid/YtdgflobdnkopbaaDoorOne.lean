/-
  Parts of a digest: none, one; an array of 16 bytes read as a slice. Over any program. No condition.
-/
import Derived.Test.YtdgflobdnkopbaaDoorHashM
namespace Go.Proofs.YtdgflobdnkopbaaDoor
open Go.RowKit

theorem readsP_one (w : World) (t : TypeId) (A1 : Option Addr) (n1 c1 : Nat) (l1 : List UInt8) (h1 : Reads w w.heap.size 1 A1 n1 (bvs l1)) (hc1 : n1 ≤ c1) :
    ReadsP (w.alloc (.cells #[.slice A1 n1 c1] t)) (w.alloc (.cells #[.slice A1 n1 c1] t)).heap.size (some ⟨w.heap.size, 0, none⟩) 1 [⟨A1, n1, c1, l1⟩] := by
  have hsz : (w.alloc (.cells #[.slice A1 n1 c1] t)).heap.size = w.heap.size + 1 := by simp
  refine ⟨⟨rfl, fun _ => ⟨_, rfl, by rw [hsz]; exact Nat.lt_succ_self _, (row_alloc w t [.slice A1 n1 c1]).cells⟩⟩, fun p hp => ?_⟩
  simp only [List.mem_cons, List.not_mem_nil, or_false] at hp
  subst hp
  exact ⟨(h1.alloc (Nat.le_refl _) _).more (by rw [hsz]; omega), hc1⟩
theorem readsP_none (w : World) (B : Nat) : ReadsP w B none 0 [] := ⟨⟨rfl, fun h => absurd h (by omega)⟩, by simp⟩
theorem parts_one_le (p : Part) (m : Nat) (hp : p.n ≤ m) : ∀ r ∈ [p], r.n ≤ m := by
  intro r hr
  simp only [List.mem_cons, List.not_mem_nil, or_false] at hr
  subst hr
  exact hp
theorem Row.reads16 {w : World} {g : Nat} {e : TypeId} {d : List UInt8} (h : Row w g e (bvs d)) (hd : d.length = 16) : Reads w w.heap.size 1 (some ⟨g, 0, none⟩) 16 (bvs d) :=
  h.reads (by rw [bvs_length, hd])
end Go.Proofs.YtdgflobdnkopbaaDoor
