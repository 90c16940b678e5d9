/- What the laws do with slices of slices of integers. -/
import Derived.Test.YtmfbbbnenngehaaV0
import Derived.Test.YtmfbbbnenngehaaB5
namespace Go.Proofs.Ytmfbbbnenngehaa
open Go.RowKit
end Go.Proofs.Ytmfbbbnenngehaa
