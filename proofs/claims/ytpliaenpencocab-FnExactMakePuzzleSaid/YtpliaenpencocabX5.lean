/- Clues that are none: the panic; the recovered door. -/
import Derived.Test.YtpliaenpencocabX4
namespace Go.Proofs.Ytpliaenpencocab
open Go.RowKit
set_option linter.unusedVariables false

end Go.Proofs.Ytpliaenpencocab
