/- Threads: laws over one or two of them that give numbers. -/
import Derived.Test.YtnldnjgnpdicnaaUC
import Derived.Test.YtnldnjgnpdicnaaW2
import Derived.Test.YtnldnjgnpdicnaaBA
namespace Go.Proofs.Ytnldnjgnpdicnaa
open Go.RowKit
set_option linter.unusedVariables false

end Go.Proofs.Ytnldnjgnpdicnaa
