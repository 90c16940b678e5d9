/- A chord is dropped: the law. -/
import Derived.Test.YtmfbbbnenngehaaKB
namespace Go.Proofs.Ytmfbbbnenngehaa
open Go.RowKit
set_option linter.unusedVariables false

end Go.Proofs.Ytmfbbbnenngehaa
