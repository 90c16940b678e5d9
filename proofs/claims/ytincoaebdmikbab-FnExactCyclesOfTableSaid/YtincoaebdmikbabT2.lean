/- Times tables: which there are, and powers. -/
import Derived.Test.YtincoaebdmikbabW2
import Derived.Test.YtincoaebdmikbabT1
namespace Go.Proofs.Ytincoaebdmikbab
open Go.RowKit
set_option linter.unusedVariables false

set_option maxHeartbeats 400000 in
theorem isTable_yes (p f : Int) (w : World) (h : (3 ≤ p ∧ p ≤ 60) ∧ (0 ≤ f ∧ f < p)) :
    Calls Try.prog 32 #[.int .i64 p, .int .i64 f] w fun e w' => e = .returned (.bool true) ∧ w = w' := by
  go_enter Try.func32, Try.ntmps32
  go_wp2_with (first | (go_at_call 56; (with_reducible refine (isPointCount_yes _ _ h.1).mono ?_); rintro e w1 ⟨rfl, rfl⟩) | (go_at_call 54; (with_reducible refine (isPoint_yes _ _ _ h.2).mono ?_); rintro e w1 ⟨rfl, rfl⟩))
  go_ret
  exact ⟨rfl, rfl⟩

set_option maxHeartbeats 400000 in
theorem isTable_no (p f : Int) (w : World) (h : ¬ ((3 ≤ p ∧ p ≤ 60) ∧ (0 ≤ f ∧ f < p))) :
    Calls Try.prog 32 #[.int .i64 p, .int .i64 f] w fun e w' => e = .returned (.bool false) ∧ w = w' := by
  by_cases h1 : 3 ≤ p ∧ p ≤ 60
  · have h2 : ¬ (0 ≤ f ∧ f < p) := fun g => h ⟨h1, g⟩
    clear h
    go_enter Try.func32, Try.ntmps32
    go_wp2_with (first | (go_at_call 56; (with_reducible refine (isPointCount_yes _ _ h1).mono ?_); rintro e w1 ⟨rfl, rfl⟩) | (go_at_call 54; (with_reducible refine (isPoint_no _ _ _ h2).mono ?_); rintro e w1 ⟨rfl, rfl⟩))
    go_ret
    exact ⟨rfl, rfl⟩
  · clear h
    go_enter Try.func32, Try.ntmps32
    go_wp2_with (first | (go_at_call 56; (with_reducible refine (isPointCount_no _ _ h1).mono ?_); rintro e w1 ⟨rfl, rfl⟩))
    go_ret
    exact ⟨rfl, rfl⟩

set_option maxHeartbeats 400000 in
theorem taGood_yes (p f : Int) (w : World) (h : (3 ≤ p ∧ p ≤ 60) ∧ (0 ≤ f ∧ f < p)) :
    Calls Try.prog 29 #[.int .i64 p, .int .i64 f] w fun e w' => e = .returned (.bool true) ∧ w = w' := by
  have hp := h.1
  go_enter Try.func29, Try.ntmps29
  go_wp2_with (first | (go_at_call 55; (with_reducible refine (srPoints_yes _ _ hp).mono ?_); rintro e w1 ⟨rfl, rfl⟩) | (go_at_call 51; (with_reducible refine (l1In_yes _ _ _ _ (by omega)).mono ?_); rintro e w1 ⟨rfl, rfl⟩))
  go_ret
  exact ⟨rfl, rfl⟩

set_option maxHeartbeats 400000 in
theorem taGood_no (p f : Int) (w : World) (h : ¬ ((3 ≤ p ∧ p ≤ 60) ∧ (0 ≤ f ∧ f < p))) :
    Calls Try.prog 29 #[.int .i64 p, .int .i64 f] w fun e w' => e = .returned (.bool false) ∧ w = w' := by
  by_cases h1 : 3 ≤ p ∧ p ≤ 60
  · have h2 : ¬ (0 ≤ f ∧ f ≤ p - 1) := fun g => h ⟨h1, by omega⟩
    clear h
    go_enter Try.func29, Try.ntmps29
    go_wp2_with (first | (go_at_call 55; (with_reducible refine (srPoints_yes _ _ h1).mono ?_); rintro e w1 ⟨rfl, rfl⟩) | (go_at_call 51; (with_reducible refine (l1In_no _ _ _ _ h2).mono ?_); rintro e w1 ⟨rfl, rfl⟩))
    go_ret
    exact ⟨rfl, rfl⟩
  · clear h
    go_enter Try.func29, Try.ntmps29
    go_wp2_with (first | (go_at_call 55; (with_reducible refine (srPoints_no _ _ h1).mono ?_); rintro e w1 ⟨rfl, rfl⟩))
    go_ret
    exact ⟨rfl, rfl⟩

theorem mul_bd60 {a b : Nat} (ha : a < 60) (hb : b < 60) : 0 ≤ (a : Int) * (b : Int) ∧ (a : Int) * (b : Int) ≤ 3600 :=
  ⟨Int.mul_nonneg (by omega) (by omega), Int.le_trans (Int.mul_le_mul (show (a : Int) ≤ 60 by omega) (show (b : Int) ≤ 60 by omega) (by omega) (by omega)) (by omega)⟩

end Go.Proofs.Ytincoaebdmikbab
