/-
  What the law file's few returns: a contract by a walk. No condition but the lengths' range.
-/
import Derived.Test.YtfclifolniefpaaDoorStFH
set_option linter.unusedSimpArgs false
set_option linter.unusedVariables false
namespace Go.Proofs.YtfclifolniefpaaDoor
open Go.RowKit

def stFew (l : List StR) : Bool := decide (∀ r ∈ l, r.s.size ≤ 400) && decide (l.length ≤ 40)
theorem stFew_iff {l : List StR} : stFew l = true ↔ (∀ r ∈ l, r.s.size ≤ 400) ∧ l.length ≤ 40 := by
  unfold stFew
  rw [Bool.and_eq_true, decide_eq_true_eq, decide_eq_true_eq]
end Go.Proofs.YtfclifolniefpaaDoor
