/- What the laws do with slices of slices of integers. -/
import Derived.Test.YtnldnjgnpdicnaaV0
import Derived.Test.YtnldnjgnpdicnaaBA
namespace Go.Proofs.Ytnldnjgnpdicnaa
open Go.RowKit
end Go.Proofs.Ytnldnjgnpdicnaa
