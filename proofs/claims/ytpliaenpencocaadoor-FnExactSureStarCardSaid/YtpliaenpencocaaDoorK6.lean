/- The pairs of chords that cross: the walks. -/
import Derived.Test.YtpliaenpencocaaDoorK5
namespace Go.Proofs.YtpliaenpencocaaDoor
open Go.RowKit

end Go.Proofs.YtpliaenpencocaaDoor
