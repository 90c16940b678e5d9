/- Threads: laws over one or two of them that give numbers. -/
import Derived.Test.YtngonpiiehmlaabUC
import Derived.Test.YtngonpiiehmlaabW2
import Derived.Test.YtngonpiiehmlaabB3
namespace Go.Proofs.Ytngonpiiehmlaab
open Go.RowKit
set_option linter.unusedVariables false

end Go.Proofs.Ytngonpiiehmlaab
