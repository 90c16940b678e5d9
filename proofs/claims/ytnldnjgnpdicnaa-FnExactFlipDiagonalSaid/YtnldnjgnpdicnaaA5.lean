/- Regions: pieces of a chord, arcs that chords part; the program and the model. -/
import Derived.Test.YtnldnjgnpdicnaaA4
import Derived.Test.YtnldnjgnpdicnaaW1
namespace Go.Proofs.Ytnldnjgnpdicnaa
open Go.RowKit
set_option linter.unusedVariables false

theorem countP_take_step {α : Type} (f : α → Bool) (xs : List α) (z : α) (k : Nat) (h : k < xs.length) : (xs.take (k + 1)).countP f = (xs.take k).countP f + if f (xs.getD k z) then 1 else 0 := by
  rw [List.take_succ_eq_append_getElem h, List.countP_append, List.getD_eq_getElem?_getD, List.getElem?_eq_getElem h]
  simp [List.countP_cons]

/-- Is an arc on the side of a chord that leads from its lesser point on to the greater one? -/
def within (c : Int × Int) (i : Int) : Bool := decide (c.1 ≤ i ∧ i < c.2)
/-- How many chords part two arcs. -/
def partedL (i j : Int) (xs : List (Int × Int)) : Nat := xs.countP fun c => within c i != within c j
theorem partedL_le (i j : Int) (xs : List (Int × Int)) : partedL i j xs ≤ xs.length := List.countP_le_length
theorem partedL_take (i j : Int) (xs : List (Int × Int)) (k : Nat) (h : k < xs.length) : partedL i j (xs.take (k + 1)) = partedL i j (xs.take k) + if within (xs.getD k (0, 0)) i != within (xs.getD k (0, 0)) j then 1 else 0 :=
  countP_take_step _ xs (0, 0) k h

theorem l1In_any (n lo hi : Int) (t : Bool) (w : World) (h : decide (lo ≤ n ∧ n ≤ hi) = t) :
    Calls Try.prog 50 #[.int .i64 n, .int .i64 lo, .int .i64 hi] w fun e w' => e = .returned (.bool t) ∧ w = w' := by
  cases t
  · exact l1In_no n lo hi w (of_decide_eq_false h)
  · exact l1In_yes n lo hi w (of_decide_eq_true h)