/- Slices of integers that a call made itself: one beside another. Nothing of the program. -/
import Derived.Test.YtlkehdjfmmghjabB3
namespace Go.Proofs.Ytlkehdjfmmghjab
open Go.RowKit

theorem IntsIn.beside {e : TypeId} {w w' : World} {B T : Nat} {v u : Value} {xs : List Int} (h : IntsIn e w B T v xs) (hg : w.grownBy w' u.ownBlock) (hu : ∀ k, u.ownBlock = some k → T ≤ k) (hT : T ≤ w.heap.size) : IntsIn e w' B T v xs :=
  h.keep fun k _ hk => hg.block k (by omega) fun e => by have := hu k e.symm; omega

/-- The integers 1, .., m. -/
def upTo (m : Nat) : List Int := (List.range m).map fun (i : Nat) => (i : Int) + 1

theorem upTo_length (m : Nat) : (upTo m).length = m := by simp [upTo]

theorem upTo_succ (m : Nat) : upTo m ++ [(m : Int) + 1] = upTo (m + 1) := by simp [upTo, List.range_succ]

theorem upTo_get (m i : Nat) (h : i < m) : (upTo m).getD i 0 = (i : Int) + 1 := by
  simp [upTo, List.getD, List.getElem?_map, List.getElem?_range h]

/-- Those of 1, .., m with no common divisor with p. -/
def onesTo (p m : Nat) : List Int := (upTo m).filter fun x => decide (Nat.gcd p x.toNat = 1)

theorem onesTo_zero (p : Nat) : onesTo p 0 = [] := rfl

theorem onesTo_length (p m : Nat) : (onesTo p m).length ≤ m := by
  have := List.length_filter_le (fun x : Int => decide (Nat.gcd p x.toNat = 1)) (upTo m)
  rw [upTo_length] at this
  exact this

theorem onesTo_yes (p m : Nat) (h : Nat.gcd p (m + 1) = 1) : onesTo p m ++ [(m : Int) + 1] = onesTo p (m + 1) := by
  have e : ((m : Int) + 1).toNat = m + 1 := by omega
  rw [onesTo, onesTo, ← upTo_succ, List.filter_append]
  simp [e, h]

theorem onesTo_no (p m : Nat) (h : ¬ Nat.gcd p (m + 1) = 1) : onesTo p m = onesTo p (m + 1) := by
  have e : ((m : Int) + 1).toNat = m + 1 := by omega
  rw [onesTo, onesTo, ← upTo_succ, List.filter_append]
  simp [e, h]

end Go.Proofs.Ytlkehdjfmmghjab
