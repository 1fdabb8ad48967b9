/-
  A part of a slice of bytes reads as that part of its list. Over any program. No condition.
-/
import Derived.Test.YtpmkjnmddglckaaDoorWords
namespace Go.Proofs.YtpmkjnmddglckaaDoor
open Go.RowKit

theorem Reads.bytes_len {w : World} {B n : Nat} {A : Option Addr} {l : List UInt8} (h : Reads w B 1 A n (bvs l)) : l.length = n := by
  have := h.1; rw [bvs_length] at this; omega
theorem Reads.sub {w : World} {B n c u m : Nat} {A : Option Addr} {l : List UInt8} (h : Reads w B 1 A n (bvs l)) (hu : u + m ≤ n) (hc : n ≤ c) :
    Reads w B 1 (if c = u then A else A.map (·.add (u * 1))) m (bvs ((l.drop u).take m)) := by
  have h1 := (h.cut (k := u) (cap := c) (by omega) hc).take (k := m) (by omega)
  have e : bvs ((l.drop u).take m) = ((bvs l).drop (u * 1)).take (m * 1) := by unfold bvs; rw [Nat.mul_one, Nat.mul_one, List.map_take, List.map_drop]
  rw [e]
  exact h1
end Go.Proofs.YtpmkjnmddglckaaDoor
