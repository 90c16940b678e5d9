/- Sets of chords, the pairs that cross, how many there are, and whether a set is plane: the laws. -/
import Derived.Test.YtbgcbokddldmkaaDoorK3
import Derived.Test.YtbgcbokddldmkaaDoorK4
import Derived.Test.YtbgcbokddldmkaaDoorK6
namespace Go.Proofs.YtbgcbokddldmkaaDoor
open Go.RowKit
set_option linter.unusedVariables false

theorem giveRows {w w' : World} {v : Value} {xss : List (List Int)} (b : Bool) {B : Nat} (hI : RowsIn 26 3 w' B w'.heap.size v xss) (hB : w.heap.size ≤ B) (hb : Below w.heap.size w w') : Gives (RowsIn 26 3) w xss b (.returned (.tuple #[v, .bool b])) w' := by
  obtain ⟨vs, hv⟩ := hI
  exact ⟨v, rfl, ⟨vs, hv.lower hB⟩, hb⟩

theorem giveNoRows {w w' : World} (hb : Below w.heap.size w w') : Gives (RowsIn 26 3) w [] false (.returned (.tuple #[.slice none 0 0, .bool false])) w' :=
  ⟨_, rfl, RowsIn.nil _ _ _ _ _, hb⟩

end Go.Proofs.YtbgcbokddldmkaaDoor
