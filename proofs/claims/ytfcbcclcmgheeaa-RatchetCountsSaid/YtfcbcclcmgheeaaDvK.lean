/-
  What device.written, malformed, accesses, faultAt, bytes.Equal and slices.EqualFunc return: contracts by walks. No condition.
-/
import Derived.Test.YtfcbcclcmgheeaaDvW
import Derived.Deep.LoopGhost
namespace Go.Proofs.Ytfcbcclcmgheeaa
open Go.RowKit

/-- How many bytes of a write reach the memory, as the landed code says it. -/
def dvN (f : DvF) : Int := if f.cut then min (max f.n 0) 256 else 256
theorem flW_dvN (b old : ByteArray) (f : DvF) : flW b (dvN f) old = flW b (dvCut f) old := by
  unfold dvN dvCut
  cases f.cut with
  | false => rw [if_neg (by decide), if_neg (by decide), flW_whole (flWhole_far (by decide)), flW_whole (flWhole_neg (by decide))]
  | true =>
    rw [if_pos rfl, if_pos rfl, show min (max f.n 0) 256 = max 0 (min 256 f.n) by omega]
theorem flWrite_dvN (fs : List ByteArray) (k : Int) (b : ByteArray) (f : DvF) : flWrite fs k b (dvN f) = flWrite fs k b (dvCut f) := by
  unfold flWrite
  rw [flW_dvN]
theorem str_empty {s : ByteArray} (h : s ≠ noB) : (s.toList == ([] : List UInt8)) = false := by
  have := str_ne h
  rwa [show noB.toList = [] by rw [ByteArray.toList_eq]; rfl] at this
end Go.Proofs.Ytfcbcclcmgheeaa
