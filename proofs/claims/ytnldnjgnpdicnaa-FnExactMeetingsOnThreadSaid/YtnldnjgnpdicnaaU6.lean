/- Threads scaled. -/
import Derived.Test.YtnldnjgnpdicnaaU4
namespace Go.Proofs.Ytnldnjgnpdicnaa
open Go.RowKit
set_option linter.unusedVariables false

/-- A thread scaled. -/
def scP (k : Int) (p : Int × Int) : Int × Int := (p.1 * k, p.2 * k)

theorem scP_take (xs : List (Int × Int)) (k : Int) (j : Nat) (h : j < xs.length) (x y : Int) (hxy : xs.getD j (0, 0) = (x, y)) : (xs.take (j + 1)).map (scP k) = (xs.take j).map (scP k) ++ [(x * k, y * k)] := by
  rw [List.take_succ_eq_append_getElem h, List.map_append]
  have : xs[j] = (x, y) := by rw [← hxy, List.getD_eq_getElem?_getD, List.getElem?_eq_getElem h]; rfl
  simp [this, scP]

theorem thread_letters {xs : List (Int × Int)} (hg : goodT xs) (j : Nat) (h : j < xs.length) : ∃ x y : Int, xs.getD j (0, 0) = (x, y) ∧ 1 ≤ x ∧ x ≤ 100 ∧ 1 ≤ y ∧ y ≤ 100 := by
  have := hg.at j h
  exact ⟨_, _, rfl, this.1.1, this.1.2, this.2.1, this.2.2⟩

theorem prod100 (x y : Int) (h1 : 0 ≤ x ∧ x ≤ 100) (h2 : 0 ≤ y ∧ y ≤ 100) : 0 ≤ x * y ∧ x * y ≤ 10000 :=
  ⟨Int.mul_nonneg h1.1 h2.1, by have := Int.mul_le_mul h1.2 h2.2 h2.1 (by omega); omega⟩

theorem map_getD {α β : Type} (f : α → β) (xs : List α) (z : α) : (List.range xs.length).map (fun i => f (xs.getD i z)) = xs.map f := by
  have := congrArg (List.map f) (range_getD xs z)
  rwa [List.map_map] at this

end Go.Proofs.Ytnldnjgnpdicnaa
