/-
  What device.clone returns: a contract by a walk. Condition: bounded lengths.
-/
import Derived.Test.YtfcbcclcmgheeaaDvE
import Derived.Test.YtfcbcclcmgheeaaFlG
namespace Go.Proofs.Ytfcbcclcmgheeaa
open Go.RowKit

theorem hw_set0 (A A' : Option Addr) (n c c' : Nat) (ps : List Part) (B : Option Addr) (m d : Nat) (fs : List ByteArray) (rt : List UInt8) : (⟨A, n, c, ps, B, m, d, fs, rt⟩ : Hw).cs.set 0 (.slice A' n c') = (⟨A', n, c', ps, B, m, d, fs, rt⟩ : Hw).cs := rfl
theorem hw_set1 (A B' : Option Addr) (n c d' : Nat) (ps : List Part) (B : Option Addr) (m d : Nat) (fs : List ByteArray) (rt : List UInt8) : (⟨A, n, c, ps, B, m, d, fs, rt⟩ : Hw).cs.set 1 (.slice B' m d') = (⟨A, n, c, ps, B', m, d', fs, rt⟩ : Hw).cs := rfl
end Go.Proofs.Ytfcbcclcmgheeaa
