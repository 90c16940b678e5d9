/- A chord is dropped. -/
import Derived.Test.YtlkehdjfmmghjabKA
import Derived.Test.YtlkehdjfmmghjabP6
import Derived.Test.YtlkehdjfmmghjabKC
namespace Go.Proofs.Ytlkehdjfmmghjab
open Go.RowKit
set_option linter.unusedVariables false

end Go.Proofs.Ytlkehdjfmmghjab
