/- Loops: the laws of IsLoop and CountLoopCrossings. -/
import Derived.Test.YtpcebcgmbngababDoorJ5
import Derived.Test.YtpcebcgmbngababDoorRows
namespace Go.Proofs.YtpcebcgmbngababDoor
open Go.RowKit
set_option linter.unusedVariables false

end Go.Proofs.YtpcebcgmbngababDoor
