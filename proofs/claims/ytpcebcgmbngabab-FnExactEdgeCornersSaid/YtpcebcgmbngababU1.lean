/- Threads: laws over one or two of them that give numbers. -/
import Derived.Test.YtpcebcgmbngababUC
import Derived.Test.YtpcebcgmbngababW2
import Derived.Test.YtpcebcgmbngababB3
namespace Go.Proofs.Ytpcebcgmbngabab
open Go.RowKit
set_option linter.unusedVariables false

end Go.Proofs.Ytpcebcgmbngabab
