/- The strings of a star, as lists. -/
import Derived.Test.YtnldnjgnpdicnaaW2
import Derived.Test.YtnldnjgnpdicnaaV1
import Derived.Test.YtnldnjgnpdicnaaM1
import Derived.Test.YtnldnjgnpdicnaaBA
import Derived.Deep.RegionHeld3
namespace Go.Proofs.Ytnldnjgnpdicnaa
open Go.RowKit

theorem info_int : (Try.prog.info? 3).map (fun i => (i.zero, i.size, i.bytes)) = some (some (.int .i64 0), 1, 8) := by kernel_rfl

/-- A call returns the integers xs in a slice of its own. -/
def GivesInts (w : World) (xs : List Int) (e : Ending) (w' : World) : Prop := ∃ v, e = .returned v ∧ Ints w' w.heap.size 3 v xs ∧ Below w.heap.size w w'

end Go.Proofs.Ytnldnjgnpdicnaa
