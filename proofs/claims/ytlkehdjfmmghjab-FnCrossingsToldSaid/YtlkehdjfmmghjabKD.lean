/- A chord is dropped: the law. -/
import Derived.Test.YtlkehdjfmmghjabKB
namespace Go.Proofs.Ytlkehdjfmmghjab
open Go.RowKit
set_option linter.unusedVariables false

end Go.Proofs.Ytlkehdjfmmghjab
