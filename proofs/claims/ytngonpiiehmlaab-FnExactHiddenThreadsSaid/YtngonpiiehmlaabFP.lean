/- Quotients of small whole numbers as floats: distinct ones stand in their order. Nothing of the program. -/
import Derived.Laws.FloatArith
namespace Go.Proofs.Ytngonpiiehmlaab
open Ieee
set_option linter.unusedVariables false

/-- A whole number as a float. -/
def fl (n : Nat) : Nat := floatOfInt .f64 (n : Int)

def readOk (n : Nat) : Bool := double.read (fl n) == .number false (n <<< (52 - n.log2)) ((n.log2 : Int) - 52)

def allR (f : Nat → Bool) (from_ : Nat) : Nat → Bool
  | 0 => true
  | k + 1 => f (from_ + k) && allR f from_ k

theorem allR_at {f : Nat → Bool} {a : Nat} : ∀ {k : Nat}, allR f a k = true → ∀ i, a ≤ i → i < a + k → f i = true
  | 0, _, i, h1, h2 => by omega
  | k + 1, h, i, h1, h2 => by
    rw [allR, Bool.and_eq_true] at h
    by_cases e : i = a + k
    · rw [e]; exact h.1
    · exact allR_at h.2 i h1 (by omega)

set_option maxRecDepth 100000 in
theorem read_all1 : allR readOk 1 5000 = true := by decide +kernel

set_option maxRecDepth 100000 in
theorem read_all2 : allR readOk 5001 5000 = true := by decide +kernel

def mulOk (b j : Nat) : Bool := double.mul (fl b) (fl j) == some (fl (b * j))

set_option maxRecDepth 100000 in
theorem mul_all : allR (fun b => allR (mulOk b) 0 101) 0 101 = true := by decide +kernel

theorem mul_fl (b j : Nat) (hb : b ≤ 100) (hj : j ≤ 100) : double.mul (fl b) (fl j) = some (fl (b * j)) := by
  have h1 := allR_at mul_all b (by omega) (by omega)
  have h2 := allR_at h1 j (by omega) (by omega)
  exact eq_of_beq h2

theorem read_fl (n : Nat) (h1 : 1 ≤ n) (h2 : n ≤ 10000) : double.read (fl n) = .number false (n <<< (52 - n.log2)) ((n.log2 : Int) - 52) := by
  by_cases h : n ≤ 5000
  · exact eq_of_beq (allR_at read_all1 n (by omega) (by omega))
  · exact eq_of_beq (allR_at read_all2 n (by omega) (by omega))

theorem fl_zero : fl 0 = 0 := by decide +kernel

end Go.Proofs.Ytngonpiiehmlaab
