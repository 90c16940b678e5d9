/- A chord is dropped: the law. -/
import Derived.Test.YtpliaenpencocabKB
namespace Go.Proofs.Ytpliaenpencocab
open Go.RowKit
set_option linter.unusedVariables false

end Go.Proofs.Ytpliaenpencocab
