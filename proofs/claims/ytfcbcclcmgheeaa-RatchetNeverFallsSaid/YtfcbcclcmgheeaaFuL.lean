/-
  What fuse.level, fuse.uniformLevel, fuse.Least and fuse.Most return: contracts by walks. No condition but bounded lengths.
-/
import Derived.Test.YtfcbcclcmgheeaaFuG
namespace Go.Proofs.Ytfcbcclcmgheeaa
open Go.RowKit

theorem fuRead_bd (bs : List (List UInt8)) (b c : Int) (noise : Bool) : 0 ≤ fuRead bs b c noise ∧ fuRead bs b c noise ≤ 1 := by unfold fuRead; split <;> omega
end Go.Proofs.Ytfcbcclcmgheeaa
