/- Pairings by crossings: the program's walk. -/
import Derived.Test.YtnnhjnogebicbabQA
import Derived.Test.YtnnhjnogebicbabW1
namespace Go.Proofs.Ytnnhjnogebicbab
open Go.RowKit
set_option linter.unusedVariables false

set_option maxHeartbeats 400000 in
theorem paired_yes (p m : Int) (w : World) (h : (3 ≤ p ∧ p ≤ 60) ∧ p ≤ m ∧ p % 2 = 0) :
    Calls Try.prog 48 #[.int .i64 p, .int .i64 m] w fun e w' => e = .returned (.bool true) ∧ w = w' := by
  obtain ⟨h1, h2, h3⟩ := h
  have h4 : (p % 2 == 0) = true := by simp [h3]
  have hp0 : 0 ≤ p := by omega
  clear h3
  go_enter Try.func48, Try.ntmps48
  go_wp2_with (first | (go_at_call 66; (with_reducible refine (isPointCount_yes _ _ h1).mono ?_); rintro e w1 ⟨rfl, rfl⟩))
  go_ret
  exact ⟨rfl, rfl⟩

set_option maxHeartbeats 400000 in
theorem paired_no (p m : Int) (w : World) (h : ¬ ((3 ≤ p ∧ p ≤ 60) ∧ p ≤ m ∧ p % 2 = 0)) :
    Calls Try.prog 48 #[.int .i64 p, .int .i64 m] w fun e w' => e = .returned (.bool false) ∧ w = w' := by
  by_cases h1 : 3 ≤ p ∧ p ≤ 60
  · have hp0 : 0 ≤ p := by omega
    by_cases h2 : p ≤ m
    · have h4 : (p % 2 == 0) = false := beq_eq_false_iff_ne.2 fun e => h ⟨h1, h2, e⟩
      clear h
      go_enter Try.func48, Try.ntmps48
      go_wp2_with (first | (go_at_call 66; (with_reducible refine (isPointCount_yes _ _ h1).mono ?_); rintro e w1 ⟨rfl, rfl⟩))
      go_ret
      exact ⟨rfl, rfl⟩
    · clear h
      go_enter Try.func48, Try.ntmps48
      go_wp2_with (first | (go_at_call 66; (with_reducible refine (isPointCount_yes _ _ h1).mono ?_); rintro e w1 ⟨rfl, rfl⟩))
      go_ret
      exact ⟨rfl, rfl⟩
  · clear h
    go_enter Try.func48, Try.ntmps48
    go_wp2_with (first | (go_at_call 66; (with_reducible refine (isPointCount_no _ _ h1).mono ?_); rintro e w1 ⟨rfl, rfl⟩))
    go_ret
    exact ⟨rfl, rfl⟩

set_option maxHeartbeats 400000 in
theorem endings_zero (o : Nat) (c : Int) (w : World) (ho : o ≤ 20) (hc : -100 ≤ c ∧ c ≤ 100) :
    Calls Try.prog 49 #[.int .i64 0, .int .i64 o, .int .i64 c] w fun e w' => e = .returned (.int .i64 (endT 0 o c : Nat)) ∧ w = w' := by
  unfold endT
  by_cases h1 : c < 0
  · rw [if_pos (by omega)]
    go_enter Try.func49, Try.ntmps49
    go_wp2
    go_ret
    exact ⟨rfl, rfl⟩
  · by_cases h2 : 0 < o
    · rw [if_pos (by omega)]
      have h3 : (0 : Int) < (o : Int) := by omega
      go_enter Try.func49, Try.ntmps49
      go_wp2
      go_ret
      exact ⟨rfl, rfl⟩
    · obtain rfl : o = 0 := by omega
      by_cases h3 : 0 < c
      · rw [if_pos (by omega)]
        go_enter Try.func49, Try.ntmps49
        go_wp2
        go_ret
        exact ⟨rfl, rfl⟩
      · obtain rfl : c = 0 := by omega
        rw [if_neg (by omega)]
        go_enter Try.func49, Try.ntmps49
        go_wp2
        go_ret
        exact ⟨rfl, rfl⟩

set_option maxHeartbeats 1000000 in
theorem endings_step (p : Nat) (hp : p + 1 ≤ 12)
    (ih : ∀ (o : Nat) (c : Int) (w : World), o ≤ 20 → -100 ≤ c ∧ c ≤ 100 → Calls Try.prog 49 #[.int .i64 p, .int .i64 o, .int .i64 c] w fun e w' => e = .returned (.int .i64 (endT p o c : Nat)) ∧ w = w')
    (o : Nat) (c : Int) (w : World) (ho : o ≤ 20) (hc : -100 ≤ c ∧ c ≤ 100) :
    Calls Try.prog 49 #[.int .i64 ((p : Int) + 1), .int .i64 o, .int .i64 c] w fun e w' => e = .returned (.int .i64 (endT (p + 1) o c : Nat)) ∧ w = w' := by
  obtain ⟨c1, c2⟩ := hc
  have hb := fun o c => endT_bd p o c (by omega)
  unfold endT
  have pz : ((p : Int) + 1 == 0) = false := beq_eq_false_iff_ne.2 (by omega)
  by_cases h1 : c < 0
  · rw [if_pos (by omega)]
    clear ih hb
    go_enter Try.func49, Try.ntmps49
    go_wp2
    go_ret
    exact ⟨rfl, rfl⟩
  · by_cases h2 : p + 1 < o
    · rw [if_pos (by omega)]
      have h3 : (p : Int) + 1 < (o : Int) := by omega
      clear ih hb
      go_enter Try.func49, Try.ntmps49
      go_wp2
      go_ret
      exact ⟨rfl, rfl⟩
    · rw [if_neg (by omega)]
      have h3 : ¬ (p : Int) + 1 < (o : Int) := by omega
      have I1 : Hid (∀ w, Calls Try.prog 49 #[.int .i64 p, .int .i64 ((o : Int) + 1), .int .i64 c] w fun e w' => e = .returned (.int .i64 (endT p (o + 1) c : Nat)) ∧ w = w') := Lib.hid (fun w => by
        have := ih (o + 1) c w (by omega) ⟨c1, c2⟩
        rw [show ((o + 1 : Nat) : Int) = (o : Int) + 1 by omega] at this
        exact this)
      have I2 : Hid (∀ (b : Nat) (w : World), b < o → Calls Try.prog 49 #[.int .i64 p, .int .i64 ((o : Int) - 1), .int .i64 (c - (b : Int))] w fun e w' => e = .returned (.int .i64 (endT p (o - 1) (c - (b : Int)) : Nat)) ∧ w = w') := Lib.hid (fun b w hb => by
        have := ih (o - 1) (c - (b : Int)) w (by omega) ⟨by omega, by omega⟩
        rw [show ((o - 1 : Nat) : Int) = (o : Int) - 1 by omega] at this
        exact this)
      obtain ⟨A, hA⟩ : ∃ A, endT p (o + 1) c = A := ⟨_, rfl⟩
      have a1 := hb (o + 1) c
      rw [hA] at I1 a1 ⊢
      obtain ⟨f, hf⟩ : ∃ f : Nat → Nat, (fun (b : Nat) => endT p (o - 1) (c - (b : Int))) = f := ⟨_, rfl⟩
      rw [hf]
      have HFB := Lib.hid (fun b => show f b ≤ 56693912375296 by rw [← hf]; exact hb _ _)
      have I3 : Hid (∀ (b : Nat) (w : World), b < o → Calls Try.prog 49 #[.int .i64 p, .int .i64 ((o : Int) - 1), .int .i64 (c - (b : Int))] w fun e w' => e = .returned (.int .i64 (f b : Nat)) ∧ w = w') := Lib.hid (fun b w hbo => by rw [← hf]; exact I2.out b w hbo)
      have HSB := Lib.hid (fun n => sumN_le f 56693912375296 n fun b _ => HFB.out b)
      have h1' : 0 ≤ c := by omega
      clear I2 hA hf ih hb
      go_enter Try.func49, Try.ntmps49
      go_wp2_with (first | (go_at_call 49; (with_reducible refine (I1.out _).mono ?_); rintro e w1 ⟨rfl, rfl⟩))
      go_loop [7, 33] (fun u i => ∃ b : Nat, b ≤ o ∧ i = .int .i64 b ∧ u = .int .i64 ((A + sumN f b : Nat) : Int)) (fun _ i => o - (intOf i).toNat)
      case atStart => exact ⟨0, by omega, rfl, by simp [sumN]⟩
      case round =>
        obtain ⟨b, hb, rfl, rfl⟩ := hrel
        by_cases hlt : b < o
        · have s1 := HSB.out b
          have s2 := HFB.out b
          have hs : sumN f (b + 1) = sumN f b + f b := rfl
          have I4 := Lib.hid (I3.out b w hlt)
          obtain ⟨X, hX⟩ : ∃ X, A + sumN f b = X := ⟨_, rfl⟩
          obtain ⟨Y, hY⟩ : ∃ Y, f b = Y := ⟨_, rfl⟩
          have x1 : X ≤ 57 * 20000000000000000 := by
            have : b * 56693912375296 ≤ 20 * 56693912375296 := Nat.mul_le_mul_right _ (by omega)
            omega
          rw [hX]
          rw [hY] at s2 I4
          have HN := Lib.hid (show A + sumN f (b + 1) = X + Y by rw [hs, hY]; omega)
          clear s1 hs hX hY
          go_wp2_with (first | (go_at_call 49; (with_reducible refine (I4.out).mono ?_); rintro e w1 ⟨rfl, rfl⟩))
          go_round
          case rel => exact ⟨b + 1, by omega, by go_num, by rw [HN.out]; go_num⟩
          case measure => simp [intOf]; omega
        · obtain rfl : b = o := by omega
          go_wp2
          go_ret
          exact ⟨rfl, rfl⟩

theorem endings_any : ∀ (p : Nat), p ≤ 12 → ∀ (o : Nat) (c : Int) (w : World), o ≤ 20 → -100 ≤ c ∧ c ≤ 100 → Calls Try.prog 49 #[.int .i64 p, .int .i64 o, .int .i64 c] w fun e w' => e = .returned (.int .i64 (endT p o c : Nat)) ∧ w = w'
  | 0, _, o, c, w, ho, hc => endings_zero o c w ho hc
  | p + 1, hp, o, c, w, ho, hc => by
    have := endings_step p hp (fun o c w ho hc => endings_any p (by omega) o c w ho hc) o c w ho hc
    rw [show ((p + 1 : Nat) : Int) = (p : Int) + 1 by omega]
    exact this

set_option maxHeartbeats 400000 in
theorem iCountPairings_yes (p : Nat) (c : Int) (w : World) (h : (3 ≤ p ∧ p ≤ 12) ∧ p % 2 = 0) (hc : 0 ≤ c ∧ c ≤ 100) :
    Calls Try.prog 25 #[.int .i64 p, .int .i64 c] w fun e w' => e = .returned (.tuple #[.int .i64 (endT p 0 c : Nat), .bool true]) ∧ w = w' := by
  have HO := Lib.hid (fun W => endings_any p (by omega) 0 c W (by omega) ⟨by omega, by omega⟩)
  have g : (3 ≤ (p : Int) ∧ (p : Int) ≤ 60) ∧ (p : Int) ≤ 12 ∧ (p : Int) % 2 = 0 := by omega
  obtain ⟨c1, c2⟩ := hc
  go_enter Try.func25, Try.ntmps25
  go_wp2_with (first | (go_at_call 48; (with_reducible refine (paired_yes _ _ _ g).mono ?_); rintro e w1 ⟨rfl, rfl⟩) | (go_at_call 49; (refine (HO.out _).mono ?_); rintro e w1 ⟨rfl, rfl⟩))
  go_ret2
  exact ⟨rfl, rfl⟩

set_option maxHeartbeats 400000 in
theorem iCountPairings_no (p c : Int) (w : World) (h : ¬ ((4 ≤ p ∧ p ≤ 12) ∧ p % 2 = 0 ∧ (0 ≤ c ∧ c ≤ 100))) :
    Calls Try.prog 25 #[.int .i64 p, .int .i64 c] w fun e w' => e = .returned (.tuple #[.int .i64 0, .bool false]) ∧ w = w' := by
  by_cases h1 : (3 ≤ p ∧ p ≤ 60) ∧ p ≤ 12 ∧ p % 2 = 0
  · by_cases h2 : 0 ≤ c
    · have h3 : 100 < c := by omega
      clear h
      go_enter Try.func25, Try.ntmps25
      go_wp2_with (first | (go_at_call 48; (with_reducible refine (paired_yes _ _ _ h1).mono ?_); rintro e w1 ⟨rfl, rfl⟩))
      go_ret2
      exact ⟨rfl, rfl⟩
    · clear h
      have h3 : c < 0 := by omega
      go_enter Try.func25, Try.ntmps25
      go_wp2_with (first | (go_at_call 48; (with_reducible refine (paired_yes _ _ _ h1).mono ?_); rintro e w1 ⟨rfl, rfl⟩))
      go_ret2
      exact ⟨rfl, rfl⟩
  · clear h
    go_enter Try.func25, Try.ntmps25
    go_wp2_with (first | (go_at_call 48; (with_reducible refine (paired_no _ _ _ h1).mono ?_); rintro e w1 ⟨rfl, rfl⟩))
    go_ret2
    exact ⟨rfl, rfl⟩

end Go.Proofs.Ytnnhjnogebicbab
