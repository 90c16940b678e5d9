/- Points under threads. -/
import Derived.Test.YtnldnjgnpdicnaaU6
namespace Go.Proofs.Ytnldnjgnpdicnaa
open Go.RowKit
set_option linter.unusedVariables false

/-- The point x, y is under a thread. -/
def underP (x y : Int) (p : Int × Int) : Bool := decide (x * p.2 + y * p.1 ≤ p.1 * p.2)

theorem first_any {α : Type} (z : α) (p : α → Bool) (xs : List α) : (xs.any p = false ∧ ∀ i, i < xs.length → p (xs.getD i z) = false) ∨ (xs.any p = true ∧ ∃ j, j < xs.length ∧ p (xs.getD j z) = true ∧ ∀ i, i < j → p (xs.getD i z) = false) := by
  induction xs with
  | nil => exact .inl ⟨rfl, fun i h => by simp at h⟩
  | cons a r ih =>
    cases ha : p a with
    | true => exact .inr ⟨by simp [ha], 0, by simp, by simpa using ha, fun i h => by omega⟩
    | false =>
      rcases ih with ⟨h1, h2⟩ | ⟨h1, j, hj, h2, h3⟩
      · refine .inl ⟨by simp only [List.any_cons, ha, h1]; rfl, fun i hi => ?_⟩
        cases i with
        | zero => simpa using ha
        | succ i => simpa using h2 i (by simpa using hi)
      · refine .inr ⟨by simp only [List.any_cons, ha, h1]; rfl, j + 1, by simpa using hj, by simpa using h2, fun i hi => ?_⟩
        cases i with
        | zero => simpa using ha
        | succ i => simpa using h3 i (by omega)

end Go.Proofs.Ytnldnjgnpdicnaa
