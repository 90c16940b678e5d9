/- The laws TurnedStar and ChordsOf. -/
import Derived.Test.YtlkehdjfmmghjabZ6
import Derived.Test.YtlkehdjfmmghjabV9
namespace Go.Proofs.Ytlkehdjfmmghjab
open Go.RowKit
set_option linter.unusedVariables false

set_option maxHeartbeats 400000 in
theorem iChordsOf_yes (p s : Nat) (w : World) (h : 3 ≤ p ∧ p ≤ 60 ∧ 1 ≤ s ∧ s < p) :
    Calls Try.prog 34 #[.agg #[.int .i64 p, .int .i64 s]] w (Gives (PairsIn 61) w (starC p s) true) := by
  go_enter Try.func34, Try.ntmps34
  go_wp2_with (first | (go_at_call 49; refine (iTurnedStar_yes p s 0 _ h (by omega)).mono ?_; rintro e w2 ⟨v2, rfl, hp2, hb2⟩; simp only [World.size_alloc] at hb2 hp2))
  go_ret2
  exact givePairs true hp2 (by omega) (Below.trans (by go_grown) (hb2.mono (by omega)))

set_option maxHeartbeats 400000 in
theorem iChordsOf_no (p s : Int) (w : World) (h : ¬ (3 ≤ p ∧ p ≤ 60 ∧ 1 ≤ s ∧ s < p)) :
    Calls Try.prog 34 #[.agg #[.int .i64 p, .int .i64 s]] w (Gives (PairsIn 61) w [] false) := by
  go_enter Try.func34, Try.ntmps34
  go_wp2_with (first | (go_at_call 49; refine (iTurnedStar_no p s 0 _ (fun g => h g.1)).mono ?_; rintro e w2 ⟨v2, rfl, hp2, hb2⟩; simp only [World.size_alloc] at hb2 hp2))
  go_ret2
  exact ⟨_, rfl, hp2.wider (by omega) (Nat.le_refl _), Below.trans (by go_grown) (hb2.mono (by omega))⟩

end Go.Proofs.Ytlkehdjfmmghjab
