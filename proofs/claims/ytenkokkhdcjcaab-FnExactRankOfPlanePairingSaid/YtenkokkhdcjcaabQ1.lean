/- How many plane pairings there are. -/
import Derived.Test.YtenkokkhdcjcaabW1
import Derived.Test.YtenkokkhdcjcaabV0
import Derived.Test.YtenkokkhdcjcaabM2
namespace Go.Proofs.Ytenkokkhdcjcaab
open Go.RowKit

set_option maxHeartbeats 400000 in
theorem countPlane_any (n : Nat) (w : World) (h : n ≤ 15) :
    Calls Try.prog 47 #[.int .i64 n] w fun e w' => e = .returned (.int .i64 (cat n : Nat)) ∧ w = w' := by
  go_enter Try.func47, Try.ntmps47
  go_wp2
  go_loop [3, 6] (fun c i => ∃ k : Nat, k ≤ n ∧ i = .int .i64 k ∧ c = .int .i64 (cat k : Nat)) (fun _ i => n - (intOf i).toNat)
  case atStart => exact ⟨0, by omega, rfl, rfl⟩
  case round =>
    obtain ⟨k, hk, rfl, rfl⟩ := hrel
    by_cases hlt : k < n
    · have hs := cat_step k (by omega)
      have hc := cat_le k (by omega)
      have hc1 := cat_le (k + 1) (by omega)
      have HC1 := Lib.hid (rfl : cat (k + 1) = cat (k + 1))
      obtain ⟨c, hcc⟩ : ∃ c, c = cat k := ⟨_, rfl⟩
      obtain ⟨c1, hcc1⟩ : ∃ c, c = cat (k + 1) := ⟨_, rfl⟩
      have HE := Lib.hid hcc1
      rw [← hcc, ← hcc1] at hs
      rw [← hcc] at hc ⊢
      rw [← hcc1] at hc1
      have hb : c * (4 * k + 2) ≤ 9694845 * 62 := Nat.mul_le_mul hc.2 (by omega)
      obtain ⟨M, hM⟩ : ∃ M, M = c * (4 * k + 2) := ⟨_, rfl⟩
      rw [← hM] at hs hb
      have hm : IntKind.i64.wrap ((c : Int) * (4 * (k : Int) + 2)) = (M : Int) := by
        have h1 : (c : Int) * (4 * (k : Int) + 2) = (M : Int) := by rw [hM]; push_cast; rfl
        rw [h1, IntKind.wrap_i64]
        omega
      have hq : (M : Int) / ((k : Int) + 2) = (c1 : Int) := by rw [← hs]; norm_cast
      clear hcc hcc1 hM hs HC1
      go_wp2
      go_round
      case rel => exact ⟨k + 1, by omega, by go_num, by rw [← HE.out]⟩
      case measure => simp [intOf]; omega
    · obtain rfl : k = n := by omega
      go_wp2
      go_ret
      exact ⟨rfl, rfl⟩

set_option maxHeartbeats 400000 in
theorem arePaired_yes (p m : Int) (w : World) (h : (3 ≤ p ∧ p ≤ 60) ∧ p ≤ m ∧ p % 2 = 0) :
    Calls Try.prog 46 #[.int .i64 p, .int .i64 m] w fun e w' => e = .returned (.bool true) ∧ w = w' := by
  obtain ⟨h1, h2, h3⟩ := h
  have h4 : (p % 2 == 0) = true := by simp [h3]
  have hp0 : 0 ≤ p := by omega
  clear h3
  go_enter Try.func46, Try.ntmps46
  go_wp2_with (first | (go_at_call 77; (with_reducible refine (isPointCount_yes _ _ h1).mono ?_); rintro e w1 ⟨rfl, rfl⟩))
  go_ret
  exact ⟨rfl, rfl⟩

set_option maxHeartbeats 400000 in
theorem arePaired_no (p m : Int) (w : World) (h : ¬ ((3 ≤ p ∧ p ≤ 60) ∧ p ≤ m ∧ p % 2 = 0)) :
    Calls Try.prog 46 #[.int .i64 p, .int .i64 m] w fun e w' => e = .returned (.bool false) ∧ w = w' := by
  by_cases h1 : 3 ≤ p ∧ p ≤ 60
  · have hp0 : 0 ≤ p := by omega
    by_cases h2 : p ≤ m
    · have h4 : (p % 2 == 0) = false := beq_eq_false_iff_ne.2 fun e => h ⟨h1, h2, e⟩
      clear h
      go_enter Try.func46, Try.ntmps46
      go_wp2_with (first | (go_at_call 77; (with_reducible refine (isPointCount_yes _ _ h1).mono ?_); rintro e w1 ⟨rfl, rfl⟩))
      go_ret
      exact ⟨rfl, rfl⟩
    · clear h
      go_enter Try.func46, Try.ntmps46
      go_wp2_with (first | (go_at_call 77; (with_reducible refine (isPointCount_yes _ _ h1).mono ?_); rintro e w1 ⟨rfl, rfl⟩))
      go_ret
      exact ⟨rfl, rfl⟩
  · clear h
    go_enter Try.func46, Try.ntmps46
    go_wp2_with (first | (go_at_call 77; (with_reducible refine (isPointCount_no _ _ h1).mono ?_); rintro e w1 ⟨rfl, rfl⟩))
    go_ret
    exact ⟨rfl, rfl⟩

set_option maxHeartbeats 400000 in
theorem cdPlanePoints_yes (p : Int) (w : World) (h : (4 ≤ p ∧ p ≤ 30) ∧ p % 2 = 0) :
    Calls Try.prog 44 #[.int .i64 p] w fun e w' => e = .returned (.bool true) ∧ w = w' := by
  obtain ⟨h1, h3⟩ := h
  have h4 : (p % 2 == 0) = true := by simp [h3]
  have hp0 : 0 ≤ p := by omega
  clear h3
  go_enter Try.func44, Try.ntmps44
  go_wp2_with (first | (go_at_call 48; (with_reducible refine (l1In_yes p 4 30 _ h1).mono ?_); rintro e w1 ⟨rfl, rfl⟩))
  go_ret
  exact ⟨rfl, rfl⟩

set_option maxHeartbeats 400000 in
theorem cdPlanePoints_no (p : Int) (w : World) (h : ¬ ((4 ≤ p ∧ p ≤ 30) ∧ p % 2 = 0)) :
    Calls Try.prog 44 #[.int .i64 p] w fun e w' => e = .returned (.bool false) ∧ w = w' := by
  by_cases h1 : 4 ≤ p ∧ p ≤ 30
  · have hp0 : 0 ≤ p := by omega
    have h4 : (p % 2 == 0) = false := beq_eq_false_iff_ne.2 fun e => h ⟨h1, e⟩
    clear h
    go_enter Try.func44, Try.ntmps44
    go_wp2_with (first | (go_at_call 48; (with_reducible refine (l1In_yes p 4 30 _ h1).mono ?_); rintro e w1 ⟨rfl, rfl⟩))
    go_ret
    exact ⟨rfl, rfl⟩
  · clear h
    go_enter Try.func44, Try.ntmps44
    go_wp2_with (first | (go_at_call 48; (with_reducible refine (l1In_no p 4 30 _ h1).mono ?_); rintro e w1 ⟨rfl, rfl⟩))
    go_ret
    exact ⟨rfl, rfl⟩

end Go.Proofs.Ytenkokkhdcjcaab
