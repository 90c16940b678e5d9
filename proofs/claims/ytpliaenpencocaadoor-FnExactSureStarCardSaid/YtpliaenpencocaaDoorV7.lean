/- What the laws do with slices of slices of integers. -/
import Derived.Test.YtpliaenpencocaaDoorV0
import Derived.Test.YtpliaenpencocaaDoorBA
namespace Go.Proofs.YtpliaenpencocaaDoor
open Go.RowKit
end Go.Proofs.YtpliaenpencocaaDoor
