/- The edge of threads: where it begins, and the order of two fractions. -/
import Derived.Test.YtnldnjgnpdicnaaEA
import Derived.Test.YtnldnjgnpdicnaaFG
import Derived.Test.YtnldnjgnpdicnaaC1
import Derived.Test.YtnldnjgnpdicnaaU3
import Derived.Deep.RegionHeld3
namespace Go.Proofs.Ytnldnjgnpdicnaa
open Go.RowKit
set_option linter.unusedVariables false

theorem sgMeeting_e (a b c d : Int) (w : World) (h1 : isT a b) (h2 : isT c d) (hm : meetB a b c d = true) :
    Calls Try.prog 62 #[.agg #[.int .i64 a, .int .i64 b], .agg #[.int .i64 c, .int .i64 d]] w (GivesInts w (meetL a b c d)) := by
  have h := hm
  unfold meetB at h
  rw [decide_eq_true_eq] at h
  rcases h with h | h
  · rw [meetL_comm a b c d hm]; exact sgMeeting_gt a b c d w h1 h2 h.1 h.2
  · exact sgMeeting_lt a b c d w h1 h2 h.1 h.2

theorem meetingOf_e (a b c d : Int) (w : World) (h1 : isT a b) (h2 : isT c d) (hm : meetB a b c d = true) :
    Calls Try.prog 70 #[.agg #[.int .i64 a, .int .i64 b], .agg #[.int .i64 c, .int .i64 d]] w fun e w' => (∃ ax bx ay cy : Int, meetL a b c d = [ax, bx, ay, cy] ∧ e = .returned (.agg #[.int .i64 ax, .int .i64 bx, .int .i64 ay, .int .i64 cy])) ∧ Below w.heap.size w w' := by
  have h := hm
  unfold meetB at h
  rw [decide_eq_true_eq] at h
  rcases h with h | h
  · rw [meetL_comm a b c d hm]; exact meetingOf_gt a b c d w h1 h2 h.1 h.2
  · exact meetingOf_lt a b c d w h1 h2 h.1 h.2

/-- Where the edge begins, among the first n threads. -/
def startE (xs : List (Int × Int)) : Nat → Nat
  | 0 => 0
  | i + 1 => if (xs.getD (startE xs i) (0, 0)).2 ≤ (xs.getD i (0, 0)).2 then i else startE xs i

theorem startE_lt (xs : List (Int × Int)) (h0 : 0 < xs.length) : ∀ n, n ≤ xs.length → startE xs n < xs.length
  | 0, _ => h0
  | n + 1, h => by
    rw [startE]
    split
    · omega
    · exact startE_lt xs h0 n (by omega)

set_option maxHeartbeats 1000000 in
theorem compareFractions_any (P Q R S : Nat) (w : World) (h1 : P ≤ 1000000) (h2 : Q ≤ 10000) (h3 : R ≤ 1000000) (h4 : S ≤ 10000) :
    Calls Try.prog 69 #[.agg #[.int .i64 (P : Nat), .int .i64 (Q : Nat)], .agg #[.int .i64 (R : Nat), .int .i64 (S : Nat)]] w fun e w' => e = .returned (.int .i64 (cmpI ((P * S : Nat) : Int) ((R * Q : Nat) : Int))) ∧ Below w.heap.size w w' := by
  have m1 : P * S ≤ 1000000 * 10000 := Nat.mul_le_mul h1 h4
  have m2 : R * Q ≤ 1000000 * 10000 := Nat.mul_le_mul h3 h2
  have w1 : IntKind.i64.wrap ((P : Int) * (S : Int)) = ((P * S : Nat) : Int) := by rw [IntKind.wrap_i64, ← Int.natCast_mul]; omega
  have w2 : IntKind.i64.wrap ((R : Int) * (Q : Int)) = ((R * Q : Nat) : Int) := by rw [IntKind.wrap_i64, ← Int.natCast_mul]; omega
  obtain ⟨x, hx⟩ : ∃ x, ((P * S : Nat) : Int) = x := ⟨_, rfl⟩
  obtain ⟨y, hy⟩ : ∃ x, ((R * Q : Nat) : Int) = x := ⟨_, rfl⟩
  rw [hx] at w1 ⊢
  rw [hy] at w2 ⊢
  clear hx hy m1 m2
  go_enter Try.func69, Try.ntmps69
  go_wp2_with (first | (go_at_call 121; refine (cmpInt_any _ _ _).mono ?_; rintro e w1 ⟨rfl, rfl⟩))
  go_ret
  exact ⟨rfl, by go_grown⟩

end Go.Proofs.Ytnldnjgnpdicnaa
