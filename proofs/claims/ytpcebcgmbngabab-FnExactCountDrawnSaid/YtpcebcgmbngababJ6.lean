/- Loops: the laws of IsLoop and CountLoopCrossings. -/
import Derived.Test.YtpcebcgmbngababJ5
import Derived.Test.YtpcebcgmbngababRows
namespace Go.Proofs.Ytpcebcgmbngabab
open Go.RowKit
set_option linter.unusedVariables false

set_option maxHeartbeats 400000 in
theorem told_no_int (t : ByteArray) (f : Value) (w : World) (ht : t.size ≤ 1048576) (hl : loopL t.data.toList = none) :
    Calls Try.prog 55 #[.string t, f] w fun e w' => e = .returned (.tuple #[.int .i64 0, .bool false]) ∧ Below w.heap.size w w' := by
  go_enter Try.func55, Try.ntmps55
  go_wp2_with (first | (go_at_call 57; (with_reducible refine (loopOf_no t _ ht hl).mono ?_); rintro e w1 ⟨rfl, hb1⟩; have hz1 := hb1.size))
  go_ret2
  exact ⟨rfl, Below.trans hb1 (by go_grown)⟩

set_option maxHeartbeats 400000 in
theorem told_no_bool (t : ByteArray) (f : Value) (w : World) (ht : t.size ≤ 1048576) (hl : loopL t.data.toList = none) :
    Calls Try.prog 85 #[.string t, f] w fun e w' => e = .returned (.tuple #[.bool false, .bool false]) ∧ Below w.heap.size w w' := by
  go_enter Try.func85, Try.ntmps85
  go_wp2_with (first | (go_at_call 57; (with_reducible refine (loopOf_no t _ ht hl).mono ?_); rintro e w1 ⟨rfl, hb1⟩; have hz1 := hb1.size))
  go_ret2
  exact ⟨rfl, Below.trans hb1 (by go_grown)⟩

end Go.Proofs.Ytpcebcgmbngabab
