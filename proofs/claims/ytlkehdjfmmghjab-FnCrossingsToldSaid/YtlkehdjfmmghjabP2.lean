/- Chords in order: one more is put in. Nothing of the program. -/
import Derived.Test.YtlkehdjfmmghjabP1
namespace Go.Proofs.Ytlkehdjfmmghjab

/-- One pair comes before another one. -/
def lessC (x y : Int × Int) : Bool := decide (x.1 < y.1 ∨ (x.1 = y.1 ∧ x.2 < y.2))

/-- How many pairs at the head come before c. -/
def headC (c : Int × Int) : List (Int × Int) → Nat
  | [] => 0
  | x :: r => if lessC x c then headC c r + 1 else 0

theorem headC_le (c : Int × Int) (xs : List (Int × Int)) : headC c xs ≤ xs.length := by
  induction xs with
  | nil => simp [headC]
  | cons x r ih => unfold headC; split <;> simp <;> omega

theorem headC_less (c : Int × Int) (xs : List (Int × Int)) (j : Nat) (h : j < headC c xs) : lessC (xs.getD j (0, 0)) c = true := by
  induction xs generalizing j with
  | nil => simp [headC] at h
  | cons x r ih =>
    unfold headC at h
    split at h
    · rename_i hx
      cases j with
      | zero => simpa using hx
      | succ j => simpa using ih j (by omega)
    · omega

theorem headC_stop (c : Int × Int) (xs : List (Int × Int)) (h : headC c xs < xs.length) : lessC (xs.getD (headC c xs) (0, 0)) c = false := by
  induction xs with
  | nil => simp at h
  | cons x r ih =>
    unfold headC at h ⊢
    split
    · rename_i hx
      rw [if_pos hx] at h
      simpa using ih (by simpa using h)
    · rename_i hx
      simpa using hx

/-- A list with one more pair, in its place, unless it is there. -/
def putC (xs : List (Int × Int)) (c : Int × Int) : List (Int × Int) :=
  if headC c xs < xs.length ∧ xs.getD (headC c xs) (0, 0) = c then xs else xs.take (headC c xs) ++ [c] ++ xs.drop (headC c xs)

theorem putC_length (xs : List (Int × Int)) (c : Int × Int) : (putC xs c).length ≤ xs.length + 1 := by
  unfold putC
  split
  · omega
  · have := headC_le c xs
    simp
    omega

end Go.Proofs.Ytlkehdjfmmghjab
