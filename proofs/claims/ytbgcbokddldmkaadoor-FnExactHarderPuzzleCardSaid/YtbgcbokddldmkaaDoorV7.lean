/- What the laws do with slices of slices of integers. -/
import Derived.Test.YtbgcbokddldmkaaDoorV0
import Derived.Test.YtbgcbokddldmkaaDoorBA
namespace Go.Proofs.YtbgcbokddldmkaaDoor
open Go.RowKit
end Go.Proofs.YtbgcbokddldmkaaDoor
