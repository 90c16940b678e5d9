/- slices.BinarySearchFunc over chords in order. -/
import Derived.Test.YtlkehdjfmmghjabC5
import Derived.Test.YtlkehdjfmmghjabKD
import Derived.Test.YtlkehdjfmmghjabP4
namespace Go.Proofs.Ytlkehdjfmmghjab
open Go.RowKit
set_option linter.unusedVariables false

theorem headC_unique (c : Int × Int) (xs : List (Int × Int)) (i : Nat) (hi : i ≤ xs.length) (h1 : ∀ k, k < i → lessC (xs.getD k (0, 0)) c = true) (h2 : i < xs.length → lessC (xs.getD i (0, 0)) c = false) : headC c xs = i := by
  have a1 := headC_le c xs
  rcases Nat.lt_trichotomy (headC c xs) i with h | h | h
  · have := headC_stop c xs (by omega)
    rw [h1 _ h] at this
    cases this
  · exact h
  · have := headC_less c xs i h
    rw [h2 (by omega)] at this
    cases this

/-- Chords in order. -/
theorem good_less {p : Int} {xs : List (Int × Int)} (hg : goodC p xs) (i j : Nat) (hij : i < j) (hj : j < xs.length) : lessC (xs.getD i (0, 0)) (xs.getD j (0, 0)) = true := by
  induction j with
  | zero => omega
  | succ j ih =>
    have h1 := (hg.2.2 (j + 1) hj).2 (by omega)
    rw [show j + 1 - 1 = j by omega] at h1
    by_cases e : i = j
    · rw [e]; exact h1
    · exact lessC_trans (ih (by omega) (by omega)) h1

theorem less_down {p : Int} {xs : List (Int × Int)} (hg : goodC p xs) (c : Int × Int) (i j : Nat) (hij : i ≤ j) (hj : j < xs.length) (h : lessC (xs.getD j (0, 0)) c = true) : lessC (xs.getD i (0, 0)) c = true := by
  by_cases e : i = j
  · rw [e]; exact h
  · exact lessC_trans (good_less hg i j (by omega) hj) h

theorem notless_up {p : Int} {xs : List (Int × Int)} (hg : goodC p xs) (c : Int × Int) (i j : Nat) (hij : i ≤ j) (hj : j < xs.length) (h : lessC (xs.getD i (0, 0)) c = false) : lessC (xs.getD j (0, 0)) c = false := by
  cases e : lessC (xs.getD j (0, 0)) c with
  | false => rfl
  | true => rw [less_down hg c i j hij hj e] at h; cases h

/-- A chord in its place. -/
def putAt (xs : List (Int × Int)) (c d : Int) : List (Int × Int) := xs.take (headC (c, d) xs) ++ [(c, d)] ++ xs.drop (headC (c, d) xs)

def thereAt (xs : List (Int × Int)) (c d : Int) : Bool := decide (headC (c, d) xs < xs.length ∧ xs.getD (headC (c, d) xs) (0, 0) = (c, d))

end Go.Proofs.Ytlkehdjfmmghjab
