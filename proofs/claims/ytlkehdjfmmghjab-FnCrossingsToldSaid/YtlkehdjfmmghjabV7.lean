/- What the laws do with slices of slices of integers. -/
import Derived.Test.YtlkehdjfmmghjabV3
import Derived.Test.YtlkehdjfmmghjabB5
namespace Go.Proofs.Ytlkehdjfmmghjab
open Go.RowKit
end Go.Proofs.Ytlkehdjfmmghjab
