/-
  What device.writeSector returns: a contract by a walk. Condition: bounded lengths.
-/
import Derived.Test.YtfcbcclcmgheeaaDvO
import Derived.Deep.DeepCutAuto
namespace Go.Proofs.Ytfcbcclcmgheeaa
open Go.RowKit

end Go.Proofs.Ytfcbcclcmgheeaa
