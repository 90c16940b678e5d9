/- Numbers of which something is told: with the laws of lists. -/
import Derived.Test.YtnldnjgnpdicnaaV0
import Derived.Test.YtnldnjgnpdicnaaET
namespace Go.Proofs.Ytnldnjgnpdicnaa
end Go.Proofs.Ytnldnjgnpdicnaa
