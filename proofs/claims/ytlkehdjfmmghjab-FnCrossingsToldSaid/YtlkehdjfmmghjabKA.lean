/- The chord that crosses the most: the law. How far chords lead. -/
import Derived.Test.YtlkehdjfmmghjabK9
import Derived.Test.YtlkehdjfmmghjabC3
namespace Go.Proofs.Ytlkehdjfmmghjab
open Go.RowKit
set_option linter.unusedVariables false

/-- How many points farther a chord leads. -/
def lenC (p : Int) (c : Int × Int) : Int := min (c.2 - c.1) (p - (c.2 - c.1))

theorem map_take_snoc {α β : Type} (f : α → β) (xs : List α) (z : α) (k : Nat) (h : k < xs.length) : (xs.take k).map f ++ [f (xs.getD k z)] = (xs.take (k + 1)).map f := by
  rw [List.take_succ_eq_append_getElem h, List.map_append, List.getD_eq_getElem?_getD, List.getElem?_eq_getElem h]
  rfl

theorem map_range_getD {α β : Type} (f : α → β) (xs : List α) (z : α) : (List.range xs.length).map (fun i => f (xs.getD i z)) = xs.map f := by
  conv => rhs; rw [← range_getD xs z, List.map_map]
  rfl

set_option maxHeartbeats 400000 in
theorem cdLength_any (p a b : Int) (w : World) (hp : p ≤ 60) (h : 0 ≤ a ∧ a < b ∧ b < p) :
    Calls Try.prog 141 #[.int .i64 p, .agg #[.int .i64 a, .int .i64 b]] w fun e w' => e = .returned (.int .i64 (lenC p (a, b))) ∧ Below w.heap.size w w' := by
  obtain ⟨h1, h2, h3⟩ := h
  have e : lenC p (a, b) = min (b - a) (p - b + a) := by unfold lenC; simp only; omega
  rw [e]
  go_enter Try.func141, Try.ntmps141
  go_wp2_with (first | (go_at_call 139; (with_reducible refine (l1Least_i _ _ _).mono ?_); rintro e w1 ⟨rfl, rfl⟩))
  go_ret
  exact ⟨rfl, by go_grown⟩

end Go.Proofs.Ytlkehdjfmmghjab
