/- Numbers of which something is told: with the laws of lists. -/
import Derived.Test.YtpcebcgmbngababV0
import Derived.Test.YtpcebcgmbngababET
namespace Go.Proofs.Ytpcebcgmbngabab
end Go.Proofs.Ytpcebcgmbngabab
