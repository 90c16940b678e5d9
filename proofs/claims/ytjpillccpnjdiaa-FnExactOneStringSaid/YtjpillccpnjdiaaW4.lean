/- Contracts of the functions of stars: the least step. -/
import Derived.Test.YtjpillccpnjdiaaW1
import Derived.Test.YtjpillccpnjdiaaW2
namespace Go.Proofs.Ytjpillccpnjdiaa
open Go.RowKit

set_option maxHeartbeats 400000 in
theorem iStepTo_yes (p f t n : Int) (k : Nat) (w : World) (h1 : 3 ≤ p ∧ p ≤ 60) (h2 : 0 ≤ f ∧ f < p) (h3 : 0 ≤ t ∧ t < p) (h4 : 1 ≤ n ∧ n ≤ 60) (hk1 : 1 ≤ k) (hk2 : (k : Int) < p) (hk : (f + n * (k : Int)) % p = t) (hl : ∀ j : Nat, 1 ≤ j → j < k → (f + n * (j : Int)) % p ≠ t) :
    Calls Try.prog 45 #[.int .i64 p, .int .i64 f, .int .i64 t, .int .i64 n] w fun e w' => e = .returned (.tuple #[.int .i64 k, .bool true]) ∧ w = w' := by
  have hn1 := h4.1
  have hn2 := h4.2
  have hp1 := h1.1
  have hp2 := h1.2
  have hf1 := h2.1
  have hf2 := h2.2
  have d1 : decide (n < 1) = false := by simp; omega
  have d2 : decide (60 < n) = false := by simp; omega
  have HK := Lib.hid hk
  have HL := Lib.hid hl
  clear hk hl
  go_enter Try.func45, Try.ntmps45
  go_wp2_with (first | (go_at_call 47; (with_reducible refine (isPointCount_yes _ _ h1).mono ?_); rintro e w1 ⟨rfl, rfl⟩) | (go_at_call 50; (with_reducible refine (isPoint_yes _ _ _ (by omega)).mono ?_); rintro e w1 ⟨rfl, rfl⟩))
  clear d1 d2
  go_loop [10] (fun u => ∃ j : Nat, 1 ≤ j ∧ j ≤ k ∧ u = .int .i64 j) (fun u => k - (intOf u).toNat)
  case atStart => exact ⟨1, by omega, hk1, rfl⟩
  case round =>
    obtain ⟨j, hj1, hj2, rfl⟩ := hrel
    have hm1 : 0 ≤ n * (j : Int) := Int.mul_nonneg (by omega) (by omega)
    have hm2 : n * (j : Int) ≤ 60 * 60 := Int.mul_le_mul hn2 (by omega) (by omega) (by omega)
    have hjp : (j : Int) < p := by omega
    by_cases hjk : j = k
    · subst hjk
      have hb : ((f + n * (j : Int)) % p == t) = true := beq_iff_eq.2 HK.out
      go_wp2
      go_ret2
      exact ⟨rfl, rfl⟩
    · have hb : ((f + n * (j : Int)) % p == t) = false := beq_eq_false_iff_ne.2 (HL.out j hj1 (by omega))
      go_wp2
      go_round
      case rel => exact ⟨j + 1, by omega, by omega, by go_num⟩
      case measure => simp [intOf]; omega

set_option maxHeartbeats 400000 in
theorem iStepTo_none (p f t n : Int) (w : World) (h1 : 3 ≤ p ∧ p ≤ 60) (h2 : 0 ≤ f ∧ f < p) (h3 : 0 ≤ t ∧ t < p) (h4 : 1 ≤ n ∧ n ≤ 60) (hl : ∀ j : Nat, 1 ≤ j → (j : Int) < p → (f + n * (j : Int)) % p ≠ t) :
    Calls Try.prog 45 #[.int .i64 p, .int .i64 f, .int .i64 t, .int .i64 n] w fun e w' => e = .returned (.tuple #[.int .i64 0, .bool false]) ∧ w = w' := by
  have hn1 := h4.1
  have hn2 := h4.2
  have hp1 := h1.1
  have hp2 := h1.2
  have hf1 := h2.1
  have hf2 := h2.2
  have d1 : decide (n < 1) = false := by simp; omega
  have d2 : decide (60 < n) = false := by simp; omega
  have HL := Lib.hid hl
  clear hl
  go_enter Try.func45, Try.ntmps45
  go_wp2_with (first | (go_at_call 47; (with_reducible refine (isPointCount_yes _ _ h1).mono ?_); rintro e w1 ⟨rfl, rfl⟩) | (go_at_call 50; (with_reducible refine (isPoint_yes _ _ _ (by omega)).mono ?_); rintro e w1 ⟨rfl, rfl⟩))
  clear d1 d2
  go_loop [10] (fun u => ∃ j : Nat, 1 ≤ j ∧ (j : Int) ≤ p ∧ u = .int .i64 j) (fun u => (p - (intOf u)).toNat)
  case atStart => exact ⟨1, by omega, by omega, rfl⟩
  case round =>
    obtain ⟨j, hj1, hj2, rfl⟩ := hrel
    by_cases hjp : (j : Int) < p
    · have hm1 : 0 ≤ n * (j : Int) := Int.mul_nonneg (by omega) (by omega)
      have hm2 : n * (j : Int) ≤ 60 * 60 := Int.mul_le_mul hn2 (by omega) (by omega) (by omega)
      have hb : ((f + n * (j : Int)) % p == t) = false := beq_eq_false_iff_ne.2 (HL.out j hj1 hjp)
      go_wp2
      go_round
      case rel => exact ⟨j + 1, by omega, by omega, by go_num⟩
      case measure => simp [intOf]; omega
    · go_wp2
      go_ret2
      exact ⟨rfl, rfl⟩

set_option maxHeartbeats 400000 in
theorem sStepTo_yes (p f t n : Int) (k : Nat) (w : World) (h1 : 3 ≤ p ∧ p ≤ 60) (h2 : 0 ≤ f ∧ f < p) (h3 : 0 ≤ t ∧ t < p) (h4 : 1 ≤ n ∧ n ≤ 60) (hk1 : 1 ≤ k) (hk2 : (k : Int) < p) (hk : (f + n * (k : Int)) % p = t) (hl : ∀ j : Nat, 1 ≤ j → j < k → (f + n * (j : Int)) % p ≠ t) :
    Calls Try.prog 44 #[.int .i64 p, .int .i64 f, .int .i64 t, .int .i64 n] w fun e w' => e = .returned (.tuple #[.int .i64 k, .bool true]) ∧ w = w' := by
  have hn1 := h4.1
  have hn2 := h4.2
  have hp1 := h1.1
  have hp2 := h1.2
  have hf1 := h2.1
  have hf2 := h2.2
  have d1 : decide (n < 1) = false := by simp; omega
  have d2 : decide (60 < n) = false := by simp; omega
  have HK := Lib.hid hk
  have HL := Lib.hid hl
  clear hk hl
  go_enter Try.func44, Try.ntmps44
  go_wp2_with (first | (go_at_call 56; (with_reducible refine (srPoints_yes _ _ h1).mono ?_); rintro e w1 ⟨rfl, rfl⟩) | (go_at_call 49; (with_reducible refine (l1In_yes _ _ _ _ (by omega)).mono ?_); rintro e w1 ⟨rfl, rfl⟩))
  clear d1 d2
  go_loop [10] (fun u => ∃ j : Nat, 1 ≤ j ∧ j ≤ k ∧ u = .int .i64 j) (fun u => k - (intOf u).toNat)
  case atStart => exact ⟨1, by omega, hk1, rfl⟩
  case round =>
    obtain ⟨j, hj1, hj2, rfl⟩ := hrel
    have hm1 : 0 ≤ n * (j : Int) := Int.mul_nonneg (by omega) (by omega)
    have hm2 : n * (j : Int) ≤ 60 * 60 := Int.mul_le_mul hn2 (by omega) (by omega) (by omega)
    have hjp : (j : Int) < p := by omega
    by_cases hjk : j = k
    · subst hjk
      have hb : ((f + n * (j : Int)) % p == t) = true := beq_iff_eq.2 HK.out
      go_wp2
      go_ret2
      exact ⟨rfl, rfl⟩
    · have hb : ((f + n * (j : Int)) % p == t) = false := beq_eq_false_iff_ne.2 (HL.out j hj1 (by omega))
      go_wp2
      go_round
      case rel => exact ⟨j + 1, by omega, by omega, by go_num⟩
      case measure => simp [intOf]; omega

set_option maxHeartbeats 400000 in
theorem sStepTo_none (p f t n : Int) (w : World) (h1 : 3 ≤ p ∧ p ≤ 60) (h2 : 0 ≤ f ∧ f < p) (h3 : 0 ≤ t ∧ t < p) (h4 : 1 ≤ n ∧ n ≤ 60) (hl : ∀ j : Nat, 1 ≤ j → (j : Int) < p → (f + n * (j : Int)) % p ≠ t) :
    Calls Try.prog 44 #[.int .i64 p, .int .i64 f, .int .i64 t, .int .i64 n] w fun e w' => e = .returned (.tuple #[.int .i64 0, .bool false]) ∧ w = w' := by
  have hn1 := h4.1
  have hn2 := h4.2
  have hp1 := h1.1
  have hp2 := h1.2
  have hf1 := h2.1
  have hf2 := h2.2
  have d1 : decide (n < 1) = false := by simp; omega
  have d2 : decide (60 < n) = false := by simp; omega
  have HL := Lib.hid hl
  clear hl
  go_enter Try.func44, Try.ntmps44
  go_wp2_with (first | (go_at_call 56; (with_reducible refine (srPoints_yes _ _ h1).mono ?_); rintro e w1 ⟨rfl, rfl⟩) | (go_at_call 49; (with_reducible refine (l1In_yes _ _ _ _ (by omega)).mono ?_); rintro e w1 ⟨rfl, rfl⟩))
  clear d1 d2
  go_loop [10] (fun u => ∃ j : Nat, 1 ≤ j ∧ (j : Int) ≤ p ∧ u = .int .i64 j) (fun u => (p - (intOf u)).toNat)
  case atStart => exact ⟨1, by omega, by omega, rfl⟩
  case round =>
    obtain ⟨j, hj1, hj2, rfl⟩ := hrel
    by_cases hjp : (j : Int) < p
    · have hm1 : 0 ≤ n * (j : Int) := Int.mul_nonneg (by omega) (by omega)
      have hm2 : n * (j : Int) ≤ 60 * 60 := Int.mul_le_mul hn2 (by omega) (by omega) (by omega)
      have hb : ((f + n * (j : Int)) % p == t) = false := beq_eq_false_iff_ne.2 (HL.out j hj1 hjp)
      go_wp2
      go_round
      case rel => exact ⟨j + 1, by omega, by omega, by go_num⟩
      case measure => simp [intOf]; omega
    · go_wp2
      go_ret2
      exact ⟨rfl, rfl⟩

set_option maxHeartbeats 400000 in
theorem iStepTo_bad (p f t n : Int) (w : World) (h : ¬ ((3 ≤ p ∧ p ≤ 60) ∧ (0 ≤ f ∧ f < p) ∧ (0 ≤ t ∧ t < p) ∧ (1 ≤ n ∧ n ≤ 60))) :
    Calls Try.prog 45 #[.int .i64 p, .int .i64 f, .int .i64 t, .int .i64 n] w fun e w' => e = .returned (.tuple #[.int .i64 0, .bool false]) ∧ w = w' := by
  by_cases h1 : 3 ≤ p ∧ p ≤ 60
  · by_cases h2 : 0 ≤ f ∧ f < p
    · by_cases h3 : 0 ≤ t ∧ t < p
      · by_cases h4 : 1 ≤ n
        · have d1 : decide (n < 1) = false := by simp; omega
          have d2 : decide (60 < n) = true := by simp; omega
          clear h
          go_enter Try.func45, Try.ntmps45
          go_wp2_with (first | (go_at_call 47; (with_reducible refine (isPointCount_yes _ _ h1).mono ?_); rintro e w1 ⟨rfl, rfl⟩) | (go_at_call 50; (with_reducible refine (isPoint_yes _ _ _ (by omega)).mono ?_); rintro e w1 ⟨rfl, rfl⟩))
          go_ret2
          exact ⟨rfl, rfl⟩
        · have d1 : decide (n < 1) = true := by simp; omega
          clear h
          go_enter Try.func45, Try.ntmps45
          go_wp2_with (first | (go_at_call 47; (with_reducible refine (isPointCount_yes _ _ h1).mono ?_); rintro e w1 ⟨rfl, rfl⟩) | (go_at_call 50; (with_reducible refine (isPoint_yes _ _ _ (by omega)).mono ?_); rintro e w1 ⟨rfl, rfl⟩))
          go_ret2
          exact ⟨rfl, rfl⟩
      · clear h
        go_enter Try.func45, Try.ntmps45
        go_wp2_with (first | (go_at_call 47; (with_reducible refine (isPointCount_yes _ _ h1).mono ?_); rintro e w1 ⟨rfl, rfl⟩) | (go_at_call 50; (with_reducible refine (isPoint_yes p f _ h2).mono ?_); rintro e w1 ⟨rfl, rfl⟩) | (go_at_call 50; (with_reducible refine (isPoint_no p t _ h3).mono ?_); rintro e w1 ⟨rfl, rfl⟩))
        go_ret2
        exact ⟨rfl, rfl⟩
    · clear h
      go_enter Try.func45, Try.ntmps45
      go_wp2_with (first | (go_at_call 47; (with_reducible refine (isPointCount_yes _ _ h1).mono ?_); rintro e w1 ⟨rfl, rfl⟩) | (go_at_call 50; (with_reducible refine (isPoint_no p f _ h2).mono ?_); rintro e w1 ⟨rfl, rfl⟩))
      go_ret2
      exact ⟨rfl, rfl⟩
  · clear h
    go_enter Try.func45, Try.ntmps45
    go_wp2_with (first | (go_at_call 47; (with_reducible refine (isPointCount_no _ _ h1).mono ?_); rintro e w1 ⟨rfl, rfl⟩))
    go_ret2
    exact ⟨rfl, rfl⟩

set_option maxHeartbeats 400000 in
theorem sStepTo_bad (p f t n : Int) (w : World) (h : ¬ ((3 ≤ p ∧ p ≤ 60) ∧ (0 ≤ f ∧ f < p) ∧ (0 ≤ t ∧ t < p) ∧ (1 ≤ n ∧ n ≤ 60))) :
    Calls Try.prog 44 #[.int .i64 p, .int .i64 f, .int .i64 t, .int .i64 n] w fun e w' => e = .returned (.tuple #[.int .i64 0, .bool false]) ∧ w = w' := by
  by_cases h1 : 3 ≤ p ∧ p ≤ 60
  · have hp1 := h1.1
    have hp2 := h1.2
    by_cases h2 : 0 ≤ f ∧ f ≤ p - 1
    · by_cases h3 : 0 ≤ t ∧ t ≤ p - 1
      · have h4 : ¬ (1 ≤ n ∧ n ≤ 60) := by omega
        clear h
        go_enter Try.func44, Try.ntmps44
        go_wp2_with (first | (go_at_call 56; (with_reducible refine (srPoints_yes _ _ h1).mono ?_); rintro e w1 ⟨rfl, rfl⟩) | (go_at_call 49; (with_reducible refine (l1In_no n 1 60 _ h4).mono ?_); rintro e w1 ⟨rfl, rfl⟩) | (go_at_call 49; (with_reducible refine (l1In_yes f 0 (p - 1) _ h2).mono ?_); rintro e w1 ⟨rfl, rfl⟩) | (go_at_call 49; (with_reducible refine (l1In_yes t 0 (p - 1) _ h3).mono ?_); rintro e w1 ⟨rfl, rfl⟩))
        go_ret2
        exact ⟨rfl, rfl⟩
      · clear h
        go_enter Try.func44, Try.ntmps44
        go_wp2_with (first | (go_at_call 56; (with_reducible refine (srPoints_yes _ _ h1).mono ?_); rintro e w1 ⟨rfl, rfl⟩) | (go_at_call 49; (with_reducible refine (l1In_yes f 0 (p - 1) _ h2).mono ?_); rintro e w1 ⟨rfl, rfl⟩) | (go_at_call 49; (with_reducible refine (l1In_no t 0 (p - 1) _ h3).mono ?_); rintro e w1 ⟨rfl, rfl⟩))
        go_ret2
        exact ⟨rfl, rfl⟩
    · clear h
      go_enter Try.func44, Try.ntmps44
      go_wp2_with (first | (go_at_call 56; (with_reducible refine (srPoints_yes _ _ h1).mono ?_); rintro e w1 ⟨rfl, rfl⟩) | (go_at_call 49; (with_reducible refine (l1In_no f 0 (p - 1) _ h2).mono ?_); rintro e w1 ⟨rfl, rfl⟩))
      go_ret2
      exact ⟨rfl, rfl⟩
  · clear h
    go_enter Try.func44, Try.ntmps44
    go_wp2_with (first | (go_at_call 56; (with_reducible refine (srPoints_no _ _ h1).mono ?_); rintro e w1 ⟨rfl, rfl⟩))
    go_ret2
    exact ⟨rfl, rfl⟩

theorem least (P : Nat → Prop) [DecidablePred P] (n : Nat) : (∃ k, k < n ∧ P k ∧ ∀ j, j < k → ¬ P j) ∨ ∀ k, k < n → ¬ P k := by
  induction n with
  | zero => exact .inr fun k hk => by omega
  | succ n ih =>
    rcases ih with ⟨k, h1, h2, h3⟩ | h
    · exact .inl ⟨k, by omega, h2, h3⟩
    · by_cases hn : P n
      · exact .inl ⟨n, by omega, hn, h⟩
      · refine .inr fun k hk => ?_
        by_cases hkn : k = n
        · subst hkn; exact hn
        · exact h k (by omega)

set_option maxHeartbeats 400000 in
theorem walk_StepTo (p f t n : Int) (w : World) (_ : (Lit.int .i64 p).wf = true) (_ : (Lit.int .i64 f).wf = true) (_ : (Lit.int .i64 t).wf = true) (_ : (Lit.int .i64 n).wf = true) :
    Calls Try.prog 14 #[.int .i64 p, .int .i64 f, .int .i64 t, .int .i64 n] w fun e w' => e = .returned (.bool true) ∧ Below w.heap.size w w' := by
  by_cases h : (3 ≤ p ∧ p ≤ 60) ∧ (0 ≤ f ∧ f < p) ∧ (0 ≤ t ∧ t < p) ∧ (1 ≤ n ∧ n ≤ 60)
  · obtain ⟨h1, h2, h3, h4⟩ := h
    rcases least (fun j => 1 ≤ j ∧ (f + n * (j : Int)) % p = t) p.toNat with ⟨k, hk1, hk2, hk3⟩ | hno
    · have hl : ∀ j : Nat, 1 ≤ j → j < k → (f + n * (j : Int)) % p ≠ t := fun j a b c => hk3 j b ⟨a, c⟩
      have HL := Lib.hid hl
      have HK := Lib.hid hk2.2
      have hk0 := hk2.1
      clear hl hk3 hk2
      go_enter Try.func14, Try.ntmps14
      go_wp2_with (first | (go_at_call 44; (with_reducible refine (sStepTo_yes _ _ _ _ k _ h1 h2 h3 h4 hk0 (by omega) HK.out HL.out).mono ?_); rintro e w1 ⟨rfl, rfl⟩) | (go_at_call 45; (with_reducible refine (iStepTo_yes _ _ _ _ k _ h1 h2 h3 h4 hk0 (by omega) HK.out HL.out).mono ?_); rintro e w1 ⟨rfl, rfl⟩))
      go_ret
      exact ⟨rfl, by go_grown⟩
    · have hl : ∀ j : Nat, 1 ≤ j → (j : Int) < p → (f + n * (j : Int)) % p ≠ t := fun j a b c => hno j (by omega) ⟨a, c⟩
      have HL := Lib.hid hl
      clear hl hno
      go_enter Try.func14, Try.ntmps14
      go_wp2_with (first | (go_at_call 44; (with_reducible refine (sStepTo_none _ _ _ _ _ h1 h2 h3 h4 HL.out).mono ?_); rintro e w1 ⟨rfl, rfl⟩) | (go_at_call 45; (with_reducible refine (iStepTo_none _ _ _ _ _ h1 h2 h3 h4 HL.out).mono ?_); rintro e w1 ⟨rfl, rfl⟩))
      go_ret
      exact ⟨rfl, by go_grown⟩
  · have H := Lib.hid h
    clear h
    go_enter Try.func14, Try.ntmps14
    go_wp2_with (first | (go_at_call 44; (with_reducible refine (sStepTo_bad _ _ _ _ _ H.out).mono ?_); rintro e w1 ⟨rfl, rfl⟩) | (go_at_call 45; (with_reducible refine (iStepTo_bad _ _ _ _ _ H.out).mono ?_); rintro e w1 ⟨rfl, rfl⟩))
    go_ret
    exact ⟨rfl, by go_grown⟩

end Go.Proofs.Ytjpillccpnjdiaa
