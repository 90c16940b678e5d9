/- Hidden stars; DoesFit, both sides, the law. -/
import Derived.Test.YtbgcbokddldmkaaDoorX9
namespace Go.Proofs.YtbgcbokddldmkaaDoor
open Go.RowKit
set_option linter.unusedVariables false

def hidP (p s : Int) : Prop := 3 ≤ p ∧ p ≤ 14 ∧ 1 ≤ s ∧ s < p
instance (p s : Int) : Decidable (hidP p s) := by unfold hidP; infer_instance