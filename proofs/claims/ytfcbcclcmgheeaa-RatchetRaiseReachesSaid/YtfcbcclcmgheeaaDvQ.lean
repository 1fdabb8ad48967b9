/-
  What device.step returns: a contract by a walk. Condition: bounded lengths.
-/
import Derived.Test.YtfcbcclcmgheeaaDvP
namespace Go.Proofs.Ytfcbcclcmgheeaa
open Go.RowKit

end Go.Proofs.Ytfcbcclcmgheeaa
