/-
  What device.Do returns: a contract by a walk. Condition: bounded lengths.
-/
import Derived.Test.YtfcbcclcmgheeaaDvQ
namespace Go.Proofs.Ytfcbcclcmgheeaa
open Go.RowKit

end Go.Proofs.Ytfcbcclcmgheeaa
