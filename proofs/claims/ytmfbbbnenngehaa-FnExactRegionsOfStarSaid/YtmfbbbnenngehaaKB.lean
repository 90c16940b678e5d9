/- A chord is dropped. -/
import Derived.Test.YtmfbbbnenngehaaKA
import Derived.Test.YtmfbbbnenngehaaP6
import Derived.Test.YtmfbbbnenngehaaKC
namespace Go.Proofs.Ytmfbbbnenngehaa
open Go.RowKit
set_option linter.unusedVariables false

end Go.Proofs.Ytmfbbbnenngehaa
