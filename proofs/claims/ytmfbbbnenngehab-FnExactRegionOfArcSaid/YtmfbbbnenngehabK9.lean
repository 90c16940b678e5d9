/- How many chords cross a chord; the chord that crosses the most. -/
import Derived.Test.YtmfbbbnenngehabK7
namespace Go.Proofs.Ytmfbbbnenngehab
open Go.RowKit
set_option linter.unusedVariables false

/-- The best chord of the first so many, and how many it crosses: of the model. -/
def mostS (xs : List (Int × Int)) : Nat → Nat × Int
  | 0 => (0, -1)
  | k + 1 => if (mostS xs k).2 < (cntC (xs.getD k (0, 0)) xs : Int) then (k, (cntC (xs.getD k (0, 0)) xs : Int)) else mostS xs k

/-- The same of the program. -/
def mostI (xs : List (Int × Int)) : Nat → Nat × Int
  | 0 => (0, 0)
  | k + 1 => if (mostI xs k).2 < (cntC (xs.getD k (0, 0)) xs : Int) then (k, (cntC (xs.getD k (0, 0)) xs : Int)) else mostI xs k

theorem mostI_yes (xs : List (Int × Int)) (k : Nat) (h : (mostI xs k).2 < (cntC (xs.getD k (0, 0)) xs : Int)) : mostI xs (k + 1) = (k, (cntC (xs.getD k (0, 0)) xs : Int)) := by rw [mostI, if_pos h]
theorem mostI_no (xs : List (Int × Int)) (k : Nat) (h : ¬ (mostI xs k).2 < (cntC (xs.getD k (0, 0)) xs : Int)) : mostI xs (k + 1) = mostI xs k := by rw [mostI, if_neg h]
theorem mostS_yes (xs : List (Int × Int)) (k : Nat) (h : (mostS xs k).2 < (cntC (xs.getD k (0, 0)) xs : Int)) : mostS xs (k + 1) = (k, (cntC (xs.getD k (0, 0)) xs : Int)) := by rw [mostS, if_pos h]
theorem mostS_no (xs : List (Int × Int)) (k : Nat) (h : ¬ (mostS xs k).2 < (cntC (xs.getD k (0, 0)) xs : Int)) : mostS xs (k + 1) = mostS xs k := by rw [mostS, if_neg h]

theorem most_same (xs : List (Int × Int)) (k : Nat) : mostI xs (k + 1) = mostS xs (k + 1) := by
  induction k with
  | zero =>
    by_cases h : (0 : Int) < (cntC (xs.getD 0 (0, 0)) xs : Int)
    · rw [mostI_yes xs 0 h, mostS_yes xs 0 (show (-1 : Int) < _ by omega)]
    · rw [mostI_no xs 0 h, mostS_yes xs 0 (show (-1 : Int) < _ by omega)]
      have e : cntC (xs.getD 0 (0, 0)) xs = 0 := by omega
      rw [e]
      rfl
  | succ k ih => rw [mostI, ih]; conv => rhs; rw [mostS]

theorem mostS_le (xs : List (Int × Int)) (k : Nat) : (mostS xs k).1 ≤ k ∧ -1 ≤ (mostS xs k).2 ∧ (mostS xs k).2 ≤ xs.length := by
  induction k with
  | zero => simp [mostS]
  | succ k ih =>
    have := cntC_le (xs.getD k (0, 0)) xs
    rw [mostS]
    split
    · simp only; omega
    · omega

theorem mostI_le (xs : List (Int × Int)) (k : Nat) : (mostI xs k).1 ≤ k ∧ 0 ≤ (mostI xs k).2 ∧ (mostI xs k).2 ≤ xs.length := by
  induction k with
  | zero => simp [mostI]
  | succ k ih =>
    have := cntC_le (xs.getD k (0, 0)) xs
    rw [mostI]
    split
    · simp only; omega
    · omega

end Go.Proofs.Ytmfbbbnenngehab
