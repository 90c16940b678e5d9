/- Gears: which there are, and the numbers told by the greatest common divisor. -/
import Derived.Test.YtnnhjnogebicbaaW2
namespace Go.Proofs.Ytnnhjnogebicbaa
open Go.RowKit
set_option linter.unusedVariables false

set_option maxHeartbeats 400000 in
theorem isRing_yes (r : Int) (w : World) (h1 : 3 ≤ r ∧ r ≤ 300) :
    Calls Try.prog 56 #[.int .i64 r] w fun e w' => e = .returned (.bool true) ∧ w = w' := by
  obtain ⟨h1, h2⟩ := h1
  go_enter Try.func56, Try.ntmps56
  go_wp2
  go_ret
  exact ⟨rfl, rfl⟩

set_option maxHeartbeats 400000 in
theorem isRing_no (r : Int) (w : World) (h : ¬ (3 ≤ r ∧ r ≤ 300)) :
    Calls Try.prog 56 #[.int .i64 r] w fun e w' => e = .returned (.bool false) ∧ w = w' := by
  by_cases h1 : 3 ≤ r
  · have h2 : ¬ r ≤ 300 := by omega
    clear h
    go_enter Try.func56, Try.ntmps56
    go_wp2
    go_ret
    exact ⟨rfl, rfl⟩
  · clear h
    go_enter Try.func56, Try.ntmps56
    go_wp2
    go_ret
    exact ⟨rfl, rfl⟩

set_option maxHeartbeats 400000 in
theorem isGear_yes (r k : Int) (w : World) (h : (3 ≤ r ∧ r ≤ 300) ∧ (1 ≤ k ∧ k < r)) :
    Calls Try.prog 42 #[.int .i64 r, .int .i64 k] w fun e w' => e = .returned (.bool true) ∧ w = w' := by
  obtain ⟨h1, h2, h3⟩ := h
  go_enter Try.func42, Try.ntmps42
  go_wp2_with (first | (go_at_call 56; (with_reducible refine (isRing_yes _ _ h1).mono ?_); rintro e w1 ⟨rfl, rfl⟩))
  go_ret
  exact ⟨rfl, rfl⟩

set_option maxHeartbeats 400000 in
theorem isGear_no (r k : Int) (w : World) (h : ¬ ((3 ≤ r ∧ r ≤ 300) ∧ (1 ≤ k ∧ k < r))) :
    Calls Try.prog 42 #[.int .i64 r, .int .i64 k] w fun e w' => e = .returned (.bool false) ∧ w = w' := by
  by_cases h1 : 3 ≤ r ∧ r ≤ 300
  · by_cases h2 : 1 ≤ k
    · have h3 : ¬ k < r := by omega
      clear h
      go_enter Try.func42, Try.ntmps42
      go_wp2_with (first | (go_at_call 56; (with_reducible refine (isRing_yes _ _ h1).mono ?_); rintro e w1 ⟨rfl, rfl⟩))
      go_ret
      exact ⟨by simp [h3], rfl⟩
    · clear h
      go_enter Try.func42, Try.ntmps42
      go_wp2_with (first | (go_at_call 56; (with_reducible refine (isRing_yes _ _ h1).mono ?_); rintro e w1 ⟨rfl, rfl⟩))
      go_ret
      exact ⟨rfl, rfl⟩
  · clear h
    go_enter Try.func42, Try.ntmps42
    go_wp2_with (first | (go_at_call 56; (with_reducible refine (isRing_no _ _ h1).mono ?_); rintro e w1 ⟨rfl, rfl⟩))
    go_ret
    exact ⟨rfl, rfl⟩

set_option maxHeartbeats 400000 in
theorem geGood_yes (r k : Int) (w : World) (h : (3 ≤ r ∧ r ≤ 300) ∧ (1 ≤ k ∧ k < r)) :
    Calls Try.prog 40 #[.int .i64 r, .int .i64 k] w fun e w' => e = .returned (.bool true) ∧ w = w' := by
  have hp := h.1
  go_enter Try.func40, Try.ntmps40
  go_wp2_with (first | (go_at_call 44; (with_reducible refine (l1In_yes _ _ _ _ (by omega)).mono ?_); rintro e w1 ⟨rfl, rfl⟩))
  go_ret
  exact ⟨rfl, rfl⟩

set_option maxHeartbeats 400000 in
theorem geGood_no (r k : Int) (w : World) (h : ¬ ((3 ≤ r ∧ r ≤ 300) ∧ (1 ≤ k ∧ k < r))) :
    Calls Try.prog 40 #[.int .i64 r, .int .i64 k] w fun e w' => e = .returned (.bool false) ∧ w = w' := by
  by_cases h1 : 3 ≤ r ∧ r ≤ 300
  · have h2 : ¬ (1 ≤ k ∧ k ≤ r - 1) := fun g => h ⟨h1, by omega⟩
    clear h
    go_enter Try.func40, Try.ntmps40
    go_wp2_with (first | (go_at_call 44; (with_reducible refine (l1In_yes _ _ _ _ h1).mono ?_); rintro e w1 ⟨rfl, rfl⟩) | (go_at_call 44; (with_reducible refine (l1In_no _ _ _ _ h2).mono ?_); rintro e w1 ⟨rfl, rfl⟩))
    go_ret
    exact ⟨rfl, rfl⟩
  · clear h
    go_enter Try.func40, Try.ntmps40
    go_wp2_with (first | (go_at_call 44; (with_reducible refine (l1In_no _ _ _ _ h1).mono ?_); rintro e w1 ⟨rfl, rfl⟩))
    go_ret
    exact ⟨rfl, rfl⟩

/-- The letters of a ring and a wheel: what divides both, petals and rounds. -/
theorem gear_letters (r k : Nat) (h : (3 ≤ r ∧ r ≤ 300) ∧ (1 ≤ k ∧ k < r)) : ∃ g a b : Nat, (Nat.gcd r k = g ∧ r = g * a ∧ k = g * b) ∧ 1 ≤ g ∧ g ≤ 300 ∧ 1 ≤ b ∧ b < a ∧ a ≤ 300 ∧ Nat.gcd a b = 1 := by
  obtain ⟨a, ha⟩ := Nat.gcd_dvd_left r k
  obtain ⟨b, hb⟩ := Nat.gcd_dvd_right r k
  obtain ⟨g, hg⟩ : ∃ g, Nat.gcd r k = g := ⟨_, rfl⟩
  have g1 : 1 ≤ g := by rw [← hg]; exact Nat.gcd_pos_of_pos_left k (by omega)
  have g2 : g ≤ 300 := by rw [← hg]; exact Nat.le_trans (Nat.gcd_le_left k (by omega)) h.1.2
  rw [hg] at ha hb
  have b1 : 1 ≤ b := by
    rcases Nat.eq_zero_or_pos b with h0 | h0
    · subst h0; simp at hb; omega
    · exact h0
  have c : b < a := by
    refine Nat.lt_of_mul_lt_mul_left (a := g) ?_
    rw [← ha, ← hb]; exact h.2.2
  have d : a ≤ 300 := by
    have := Nat.le_mul_of_pos_left a (show 0 < g by omega)
    omega
  refine ⟨g, a, b, ⟨hg, ha, hb⟩, g1, g2, b1, c, d, ?_⟩
  have e := Nat.gcd_mul_left g a b
  rw [← ha, ← hb, hg] at e
  have : g * 1 = g * Nat.gcd a b := by rw [Nat.mul_one]; exact e
  exact (Nat.eq_of_mul_eq_mul_left (by omega) this).symm

theorem quo (g a : Nat) (hg : 1 ≤ g) : ((g * a : Nat) : Int) / (g : Int) = a := by
  rw [Int.natCast_mul]; exact Int.mul_ediv_cancel_left _ (by omega)

theorem quo_sub (g a b : Nat) (hg : 1 ≤ g) : (((g * a : Nat) : Int) - ((g * b : Nat) : Int)) / (g : Int) = a - b := by
  rw [Int.natCast_mul, Int.natCast_mul, ← Int.mul_sub]; exact Int.mul_ediv_cancel_left _ (by omega)

theorem quo_add (g a b : Nat) (hg : 1 ≤ g) : (((g * a : Nat) : Int) + ((g * b : Nat) : Int)) / (g : Int) = a + b := by
  rw [Int.natCast_mul, Int.natCast_mul, ← Int.mul_add]; exact Int.mul_ediv_cancel_left _ (by omega)

/-- What is said of a ring and a wheel in letters. -/
def Gear (r k g a b : Nat) : Prop :=
  ((3 ≤ (r : Int) ∧ (r : Int) ≤ 300) ∧ (1 ≤ (k : Int) ∧ (k : Int) < r)) ∧ Nat.gcd r k = g ∧ 1 ≤ g ∧ g ≤ 300 ∧ 1 ≤ b ∧ b < a ∧ a ≤ 300 ∧
  (r : Int) / (g : Int) = a ∧ (k : Int) / (g : Int) = b ∧ ((r : Int) - (k : Int)) / (g : Int) = a - b ∧ ((r : Int) + (k : Int)) / (g : Int) = a + b ∧ r = g * a ∧ k = g * b ∧ Nat.gcd a b = 1

theorem gear_of (r k : Int) (h : (3 ≤ r ∧ r ≤ 300) ∧ (1 ≤ k ∧ k < r)) : ∃ r' k' g a b : Nat, r = r' ∧ k = k' ∧ Gear r' k' g a b := by
  obtain ⟨r, rfl⟩ := Int.eq_ofNat_of_zero_le (show 0 ≤ r by omega)
  obtain ⟨k, rfl⟩ := Int.eq_ofNat_of_zero_le (show 0 ≤ k by omega)
  obtain ⟨g, a, b, ⟨hg, ha, hb⟩, g1, g2, b1, c, d, e⟩ := gear_letters r k (by omega)
  refine ⟨r, k, g, a, b, rfl, rfl, h, hg, g1, g2, b1, c, d, ?_, ?_, ?_, ?_, ha, hb, e⟩
  · rw [ha]; exact quo g a g1
  · rw [hb]; exact quo g b g1
  · rw [ha, hb]; exact quo_sub g a b g1
  · rw [ha, hb]; exact quo_add g a b g1

set_option maxHeartbeats 400000 in
theorem petalsAndRounds_any (r k g a b : Nat) (w : World) (H : Gear r k g a b) :
    Calls Try.prog 43 #[.int .i64 r, .int .i64 k] w fun e w' => e = .returned (.tuple #[.int .i64 a, .int .i64 b]) ∧ Below w.heap.size w w' := by
  obtain ⟨h, hg, g1, g2, b1, c1, a1, e1, e2, e3, e4, HL⟩ := H; clear HL; (have g3 : (1 : Int) ≤ (g : Int) := by omega); (have i1 : (r : Int) ≤ 300 := by omega); (have i2 : (k : Int) ≤ 300 := by omega); (have i3 : 3 ≤ (r : Int) := by omega); (have i4 : 1 ≤ (k : Int) := by omega); (have HG := Lib.hid hg); clear hg
  go_enter Try.func43, Try.ntmps43
  go_wp2_with (first | (go_at_call 59; (refine (commonDivisor_any _ _ _ (by omega) (by omega)).mono ?_); rintro e w1 ⟨rfl, hb⟩; rw [HG.out]))
  go_quiet (fail)
  go_wp2
  go_ret2
  exact ⟨by simp, bdn hb _⟩

set_option maxHeartbeats 400000 in
theorem iPetalsOf_yes (r k g a b : Nat)  (w : World) (H : Gear r k g a b) :
    Calls Try.prog 15 #[.int .i64 r, .int .i64 k] w fun e w' => e = .returned (.tuple #[.int .i64 a, .bool true]) ∧ Below w.heap.size w w' := by
  have h := H.1
  have b1 : b < a := H.2.2.2.2.2.1
  have a1 : a ≤ 300 := H.2.2.2.2.2.2.1
  go_enter Try.func15, Try.ntmps15
  go_wp2_with (first | (go_at_call 42; (with_reducible refine (isGear_yes _ _ _ h).mono ?_); rintro e w1 ⟨rfl, rfl⟩) | (go_at_call 43; (refine (petalsAndRounds_any _ _ _ _ _ _ H).mono ?_); rintro e w1 ⟨rfl, hb⟩))
  go_ret2
  exact ⟨by simp, hb⟩

set_option maxHeartbeats 400000 in
theorem iPetalsOf_no (r k : Int)  (w : World) (h : ¬ ((3 ≤ r ∧ r ≤ 300) ∧ (1 ≤ k ∧ k < r))) :
    Calls Try.prog 15 #[.int .i64 r, .int .i64 k] w fun e w' => e = .returned (.tuple #[.int .i64 0, .bool false]) ∧ Below w.heap.size w w' := by
  go_enter Try.func15, Try.ntmps15
  go_wp2_with (first | (go_at_call 42; (with_reducible refine (isGear_no _ _ _ h).mono ?_); rintro e w1 ⟨rfl, rfl⟩))
  go_ret2
  exact ⟨rfl, Below.refl _ _⟩

set_option maxHeartbeats 400000 in
theorem sPetalsOf_no (r k : Int)  (w : World) (h : ¬ ((3 ≤ r ∧ r ≤ 300) ∧ (1 ≤ k ∧ k < r))) :
    Calls Try.prog 14 #[.int .i64 r, .int .i64 k] w fun e w' => e = .returned (.tuple #[.int .i64 0, .bool false]) ∧ Below w.heap.size w w' := by
  go_enter Try.func14, Try.ntmps14
  go_wp2_with (first | (go_at_call 40; (with_reducible refine (geGood_no _ _ _ h).mono ?_); rintro e w1 ⟨rfl, rfl⟩))
  go_ret2
  exact ⟨rfl, Below.refl _ _⟩

set_option maxHeartbeats 400000 in
theorem iRoundsOf_yes (r k g a b : Nat)  (w : World) (H : Gear r k g a b) :
    Calls Try.prog 17 #[.int .i64 r, .int .i64 k] w fun e w' => e = .returned (.tuple #[.int .i64 b, .bool true]) ∧ Below w.heap.size w w' := by
  have h := H.1
  have b1 : b < a := H.2.2.2.2.2.1
  have a1 : a ≤ 300 := H.2.2.2.2.2.2.1
  go_enter Try.func17, Try.ntmps17
  go_wp2_with (first | (go_at_call 42; (with_reducible refine (isGear_yes _ _ _ h).mono ?_); rintro e w1 ⟨rfl, rfl⟩) | (go_at_call 43; (refine (petalsAndRounds_any _ _ _ _ _ _ H).mono ?_); rintro e w1 ⟨rfl, hb⟩))
  go_ret2
  exact ⟨by simp, hb⟩

set_option maxHeartbeats 400000 in
theorem iRoundsOf_no (r k : Int)  (w : World) (h : ¬ ((3 ≤ r ∧ r ≤ 300) ∧ (1 ≤ k ∧ k < r))) :
    Calls Try.prog 17 #[.int .i64 r, .int .i64 k] w fun e w' => e = .returned (.tuple #[.int .i64 0, .bool false]) ∧ Below w.heap.size w w' := by
  go_enter Try.func17, Try.ntmps17
  go_wp2_with (first | (go_at_call 42; (with_reducible refine (isGear_no _ _ _ h).mono ?_); rintro e w1 ⟨rfl, rfl⟩))
  go_ret2
  exact ⟨rfl, Below.refl _ _⟩

set_option maxHeartbeats 400000 in
theorem sRoundsOf_no (r k : Int)  (w : World) (h : ¬ ((3 ≤ r ∧ r ≤ 300) ∧ (1 ≤ k ∧ k < r))) :
    Calls Try.prog 16 #[.int .i64 r, .int .i64 k] w fun e w' => e = .returned (.tuple #[.int .i64 0, .bool false]) ∧ Below w.heap.size w w' := by
  go_enter Try.func16, Try.ntmps16
  go_wp2_with (first | (go_at_call 40; (with_reducible refine (geGood_no _ _ _ h).mono ?_); rintro e w1 ⟨rfl, rfl⟩))
  go_ret2
  exact ⟨rfl, Below.refl _ _⟩

set_option maxHeartbeats 400000 in
theorem sPetalsOf_yes (r k g a b : Nat) (w : World) (H : Gear r k g a b) :
    Calls Try.prog 14 #[.int .i64 r, .int .i64 k] w fun e w' => e = .returned (.tuple #[.int .i64 a, .bool true]) ∧ Below w.heap.size w w' := by
  obtain ⟨h, hg, g1, g2, b1, c1, a1, e1, e2, e3, e4, HL⟩ := H; clear HL; (have g3 : (1 : Int) ≤ (g : Int) := by omega); (have i1 : (r : Int) ≤ 300 := by omega); (have i2 : (k : Int) ≤ 300 := by omega); (have i3 : 3 ≤ (r : Int) := by omega); (have i4 : 1 ≤ (k : Int) := by omega); (have HG := Lib.hid hg); clear hg
  go_enter Try.func14, Try.ntmps14
  go_wp2_with (first | (go_at_call 40; (with_reducible refine (geGood_yes _ _ _ h).mono ?_); rintro e w1 ⟨rfl, rfl⟩) | (go_at_call 41; (refine (srCommon_any _ _ _ (by omega) (by omega)).mono ?_); rintro e w1 ⟨rfl, hb⟩; rw [HG.out]))
  go_ret2
  exact ⟨by simp, hb⟩

theorem walk_PetalsOf (r k : Int) (w : World) (_ : (Lit.int .i64 r).wf = true) (_ : (Lit.int .i64 k).wf = true) :
    Calls Try.prog 3 #[.int .i64 r, .int .i64 k] w fun e w' => e = .returned (.bool true) ∧ Below w.heap.size w w' := by
  by_cases h : (3 ≤ r ∧ r ≤ 300) ∧ (1 ≤ k ∧ k < r)
  · obtain ⟨r, k, g, a, b, rfl, rfl, H⟩ := gear_of r k h
    go_enter Try.func3, Try.ntmps3
    go_wp2_with (first | (go_at_call 14; (with_reducible refine (sPetalsOf_yes _ _ _ _ _ _ H).mono ?_); rintro e w1 ⟨rfl, hb1⟩) | (go_at_call 15; (with_reducible refine (iPetalsOf_yes _ _ _ _ _ _ H).mono ?_); rintro e w2 ⟨rfl, hb2⟩))
    go_ret
    exact ⟨rfl, hb1.trans (hb2.mono hb1.size)⟩
  · go_enter Try.func3, Try.ntmps3
    go_wp2_with (first | (go_at_call 14; (with_reducible refine (sPetalsOf_no _ _ _ h).mono ?_); rintro e w1 ⟨rfl, hb1⟩) | (go_at_call 15; (with_reducible refine (iPetalsOf_no _ _ _ h).mono ?_); rintro e w2 ⟨rfl, hb2⟩))
    go_ret
    exact ⟨rfl, hb1.trans (hb2.mono hb1.size)⟩

set_option maxHeartbeats 400000 in
theorem sRoundsOf_yes (r k g a b : Nat) (w : World) (H : Gear r k g a b) :
    Calls Try.prog 16 #[.int .i64 r, .int .i64 k] w fun e w' => e = .returned (.tuple #[.int .i64 b, .bool true]) ∧ Below w.heap.size w w' := by
  obtain ⟨h, hg, g1, g2, b1, c1, a1, e1, e2, e3, e4, HL⟩ := H; clear HL; (have g3 : (1 : Int) ≤ (g : Int) := by omega); (have i1 : (r : Int) ≤ 300 := by omega); (have i2 : (k : Int) ≤ 300 := by omega); (have i3 : 3 ≤ (r : Int) := by omega); (have i4 : 1 ≤ (k : Int) := by omega); (have HG := Lib.hid hg); clear hg
  go_enter Try.func16, Try.ntmps16
  go_wp2_with (first | (go_at_call 40; (with_reducible refine (geGood_yes _ _ _ h).mono ?_); rintro e w1 ⟨rfl, rfl⟩) | (go_at_call 41; (refine (srCommon_any _ _ _ (by omega) (by omega)).mono ?_); rintro e w1 ⟨rfl, hb⟩; rw [HG.out]))
  go_ret2
  exact ⟨by simp, hb⟩

theorem walk_RoundsOf (r k : Int) (w : World) (_ : (Lit.int .i64 r).wf = true) (_ : (Lit.int .i64 k).wf = true) :
    Calls Try.prog 4 #[.int .i64 r, .int .i64 k] w fun e w' => e = .returned (.bool true) ∧ Below w.heap.size w w' := by
  by_cases h : (3 ≤ r ∧ r ≤ 300) ∧ (1 ≤ k ∧ k < r)
  · obtain ⟨r, k, g, a, b, rfl, rfl, H⟩ := gear_of r k h
    go_enter Try.func4, Try.ntmps4
    go_wp2_with (first | (go_at_call 16; (with_reducible refine (sRoundsOf_yes _ _ _ _ _ _ H).mono ?_); rintro e w1 ⟨rfl, hb1⟩) | (go_at_call 17; (with_reducible refine (iRoundsOf_yes _ _ _ _ _ _ H).mono ?_); rintro e w2 ⟨rfl, hb2⟩))
    go_ret
    exact ⟨rfl, hb1.trans (hb2.mono hb1.size)⟩
  · go_enter Try.func4, Try.ntmps4
    go_wp2_with (first | (go_at_call 16; (with_reducible refine (sRoundsOf_no _ _ _ h).mono ?_); rintro e w1 ⟨rfl, hb1⟩) | (go_at_call 17; (with_reducible refine (iRoundsOf_no _ _ _ h).mono ?_); rintro e w2 ⟨rfl, hb2⟩))
    go_ret
    exact ⟨rfl, hb1.trans (hb2.mono hb1.size)⟩

end Go.Proofs.Ytnnhjnogebicbaa
