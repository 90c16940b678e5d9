/- What the laws do with slices of stars. -/
import Derived.Test.YtbgcbokddldmkaaDoorRows
import Derived.Test.YtbgcbokddldmkaaDoorBA
import Derived.Deep.RegionHeld3
namespace Go.Proofs.YtbgcbokddldmkaaDoor
open Go.RowKit

set_option maxHeartbeats 400000 in
theorem eqStar_same (a b : Int) (w : World) :
    Calls Tryd.prog 39 #[.agg #[.int .i64 a, .int .i64 b], .agg #[.int .i64 a, .int .i64 b]] w fun e w' => e = .returned (.bool true) ∧ Below w.heap.size w w' := by
  go_enter Tryd.func39, Tryd.ntmps39
  go_wp2
  go_ret
  exact ⟨rfl, by go_grown⟩

end Go.Proofs.YtbgcbokddldmkaaDoor
