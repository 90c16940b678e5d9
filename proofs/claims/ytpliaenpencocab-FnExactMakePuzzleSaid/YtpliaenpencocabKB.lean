/- A chord is dropped. -/
import Derived.Test.YtpliaenpencocabKA
import Derived.Test.YtpliaenpencocabBA
import Derived.Test.YtpliaenpencocabKC
namespace Go.Proofs.Ytpliaenpencocab
open Go.RowKit
set_option linter.unusedVariables false

end Go.Proofs.Ytpliaenpencocab
