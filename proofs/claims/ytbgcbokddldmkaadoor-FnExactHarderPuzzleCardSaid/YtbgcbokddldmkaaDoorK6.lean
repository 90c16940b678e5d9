/- The pairs of chords that cross: the walks. -/
import Derived.Test.YtbgcbokddldmkaaDoorK5
namespace Go.Proofs.YtbgcbokddldmkaaDoor
open Go.RowKit

end Go.Proofs.YtbgcbokddldmkaaDoor
