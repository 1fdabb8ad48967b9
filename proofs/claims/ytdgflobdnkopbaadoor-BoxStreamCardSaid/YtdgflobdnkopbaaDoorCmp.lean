/-
  Words for comparisons element by element. No condition.
-/
import Derived.Test.YtdgflobdnkopbaaDoorAppD
import Derived.Test.YtdgflobdnkopbaaDoorBase
namespace Go.Proofs.YtdgflobdnkopbaaDoor
open Go.RowKit

/-- A bool comes back; the world is as it was but for draws. -/
def Tells (b : Bool) (w : World) (e : Ending) (w' : World) : Prop := e = .returned (.bool b) ∧ ∃ m, w' = w.drewN m
/-- Two lists of one length differ at a place, or are one. -/
theorem ne_at {α : Type} {l k : List α} {i : Nat} {x y : α} (hx : l[i]? = some x) (hy : k[i]? = some y) (h : x ≠ y) : l ≠ k := by
  rintro rfl
  rw [hx] at hy
  injection hy with hy
  exact h hy
theorem take_eq_snoc {α : Type} {l k : List α} {i : Nat} {x y : α} (hx : l[i]? = some x) (hy : k[i]? = some y) (h : l.take i = k.take i) (e : x = y) : l.take (i + 1) = k.take (i + 1) := by
  rw [List.take_add_one, List.take_add_one, h, hx, hy, e]
theorem Reads.digs_len {w : World} {B n : Nat} {A : Option Addr} {l : List (List UInt8)} (h : Reads w B 16 A n (bvs l.flatten)) (h16 : Len16 l) : l.length = n := by
  have := h.1; rw [bvs_length, flatten_len l h16] at this; omega
theorem dig_size {d : List UInt8} (h : d.length = 16) : (Tryd.prog.info? 23).map (·.size) = some (bvs d).length := by rw [bvs_length, h]; kernel_rfl
theorem size_u8 (w : World) : (sizeOf 5).run Tryd.prog w = .ok 1 w := by kernel_rfl
theorem dig_guard : Tryd.prog.eqGuardType Tryd.prog.depth 23 = false := by kernel_rfl
end Go.Proofs.YtdgflobdnkopbaaDoor
