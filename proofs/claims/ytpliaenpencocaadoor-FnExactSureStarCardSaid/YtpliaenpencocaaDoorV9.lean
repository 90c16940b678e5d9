/- What the laws do with slices of chords. -/
import Derived.Test.YtpliaenpencocaaDoorRows
import Derived.Test.YtpliaenpencocaaDoorBA
import Derived.Deep.RegionHeld3
namespace Go.Proofs.YtpliaenpencocaaDoor
open Go.RowKit

end Go.Proofs.YtpliaenpencocaaDoor
