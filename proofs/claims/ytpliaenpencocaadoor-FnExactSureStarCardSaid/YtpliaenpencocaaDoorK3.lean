/- The model's cdGood: whether a list is a set of chords. -/
import Derived.Test.YtpliaenpencocaaDoorK2
namespace Go.Proofs.YtpliaenpencocaaDoor
open Go.RowKit

end Go.Proofs.YtpliaenpencocaaDoor
