/- The model's chords of a star: one chord after the other is put in. -/
import Derived.Test.YtpcebcgmbngababC1
import Derived.Test.YtpcebcgmbngababV9
import Derived.Test.YtpcebcgmbngababP2
import Derived.Test.YtpcebcgmbngababK1
namespace Go.Proofs.Ytpcebcgmbngabab
open Go.RowKit

set_option maxHeartbeats 400000 in
theorem srLess_lt (a b c d : Int) (w : World) (_ : a < c) :
    Calls Try.prog 98 #[.agg #[.int .i64 a, .int .i64 b], .agg #[.int .i64 c, .int .i64 d]] w fun e w' => e = .returned (.bool true) ∧ Below w.heap.size w w' := by
  go_enter Try.func98, Try.ntmps98
  go_wp2
  go_ret
  exact ⟨rfl, by go_grown⟩

set_option maxHeartbeats 400000 in
theorem srLess_gt (a b c d : Int) (w : World) (_ : c < a) (_ : (a == c) = false) (_ : decide (a < c) = false) :
    Calls Try.prog 98 #[.agg #[.int .i64 a, .int .i64 b], .agg #[.int .i64 c, .int .i64 d]] w fun e w' => e = .returned (.bool false) ∧ Below w.heap.size w w' := by
  go_enter Try.func98, Try.ntmps98
  go_wp2
  go_ret
  exact ⟨rfl, by go_grown⟩

set_option maxHeartbeats 400000 in
theorem srLess_eq (a b c d : Int) (w : World) (_ : ¬ a < c) (_ : (a == c) = true) :
    Calls Try.prog 98 #[.agg #[.int .i64 a, .int .i64 b], .agg #[.int .i64 c, .int .i64 d]] w fun e w' => e = .returned (.bool (decide (b < d))) ∧ Below w.heap.size w w' := by
  go_enter Try.func98, Try.ntmps98
  go_wp2
  go_ret
  exact ⟨rfl, by go_grown⟩

theorem srLess_any (a b c d : Int) (w : World) :
    Calls Try.prog 98 #[.agg #[.int .i64 a, .int .i64 b], .agg #[.int .i64 c, .int .i64 d]] w fun e w' => e = .returned (.bool (lessC (a, b) (c, d))) ∧ Below w.heap.size w w' := by
  by_cases h1 : a < c
  · have e : lessC (a, b) (c, d) = true := by simp [lessC]; omega
    rw [e]; exact srLess_lt a b c d w h1
  · by_cases h2 : c < a
    · have e : lessC (a, b) (c, d) = false := by simp [lessC]; omega
      rw [e]; exact srLess_gt a b c d w h2 (beq_eq_false_iff_ne.2 (by omega)) (by simp; omega)
    · have e : lessC (a, b) (c, d) = decide (b < d) := by unfold lessC; rw [decide_eq_decide]; simp; omega
      rw [e]; exact srLess_eq a b c d w h1 (beq_iff_eq.2 (by omega))

end Go.Proofs.Ytpcebcgmbngabab
