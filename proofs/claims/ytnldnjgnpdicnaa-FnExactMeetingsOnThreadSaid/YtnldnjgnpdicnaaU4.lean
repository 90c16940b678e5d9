/- Threads: whether a list is some, those of the art, those scaled. -/
import Derived.Test.YtnldnjgnpdicnaaUGs
import Derived.Test.YtnldnjgnpdicnaaUGi
import Derived.Test.YtnldnjgnpdicnaaU1
namespace Go.Proofs.Ytnldnjgnpdicnaa
open Go.RowKit
set_option linter.unusedVariables false

/-! the art -/
/-- The thread from a nail on. -/
def artP (n i : Nat) : Int × Int := ((i : Int) + 1, (n : Int) - i)

def artL (n k : Nat) : List (Int × Int) := (List.range k).map (artP n)

theorem artL_succ (n k : Nat) : artL n (k + 1) = artL n k ++ [((k : Int) + 1, (n : Int) - k)] := by
  simp [artL, List.range_succ, artP]

theorem artL_length (n k : Nat) : (artL n k).length = k := by simp [artL]

end Go.Proofs.Ytnldnjgnpdicnaa
