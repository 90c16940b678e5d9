/- What a call gives that returns a puzzle and a bool. -/
import Derived.Test.YtbgcbokddldmkaaDoorX2
namespace Go.Proofs.YtbgcbokddldmkaaDoor
open Go.RowKit

def GivesZ (w : World) (x : List Tri) (b : Bool) (e : Ending) (w' : World) : Prop :=
  ∃ v, e = .returned (.tuple #[.agg #[v], .bool b]) ∧ TripsIn 44 w' w.heap.size w'.heap.size v x ∧ Below w.heap.size w w'

theorem map_rangeZ {α : Type} (f : Nat → α) (k : Nat) : (List.range k).map f ++ [f k] = (List.range (k + 1)).map f := by simp [List.range_succ]
end Go.Proofs.YtbgcbokddldmkaaDoor
