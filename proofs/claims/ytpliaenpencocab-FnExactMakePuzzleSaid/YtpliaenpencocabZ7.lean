/- The laws TurnedStar and ChordsOf. -/
import Derived.Test.YtpliaenpencocabZ6
import Derived.Test.YtpliaenpencocabV9
namespace Go.Proofs.Ytpliaenpencocab
open Go.RowKit
set_option linter.unusedVariables false

set_option maxHeartbeats 400000 in
theorem iChordsOf_yes (p s : Nat) (w : World) (h : 3 ≤ p ∧ p ≤ 60 ∧ 1 ≤ s ∧ s < p) :
    Calls Try.prog 65 #[.agg #[.int .i64 p, .int .i64 s]] w (Gives (PairsIn 67) w (starC p s) true) := by
  go_enter Try.func65, Try.ntmps65
  go_wp2_with (first | (go_at_call 97; refine (iTurnedStar_yes p s 0 _ h (by omega)).mono ?_; rintro e w2 ⟨v2, rfl, hp2, hb2⟩; simp only [World.size_alloc] at hb2 hp2))
  go_ret2
  exact givePairs true hp2 (by omega) (Below.trans (by go_grown) (hb2.mono (by omega)))

set_option maxHeartbeats 400000 in
theorem iChordsOf_no (p s : Int) (w : World) (h : ¬ (3 ≤ p ∧ p ≤ 60 ∧ 1 ≤ s ∧ s < p)) :
    Calls Try.prog 65 #[.agg #[.int .i64 p, .int .i64 s]] w (Gives (PairsIn 67) w [] false) := by
  go_enter Try.func65, Try.ntmps65
  go_wp2_with (first | (go_at_call 97; refine (iTurnedStar_no p s 0 _ (fun g => h g.1)).mono ?_; rintro e w2 ⟨v2, rfl, hp2, hb2⟩; simp only [World.size_alloc] at hb2 hp2))
  go_ret2
  exact ⟨_, rfl, hp2.wider (by omega) (Nat.le_refl _), Below.trans (by go_grown) (hb2.mono (by omega))⟩

end Go.Proofs.Ytpliaenpencocab
