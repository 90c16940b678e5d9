/- Times tables: which there are, and powers. -/
import Derived.Test.YtincoaebdmikbaaW2
import Derived.Test.YtincoaebdmikbaaT1
namespace Go.Proofs.Ytincoaebdmikbaa
open Go.RowKit
set_option linter.unusedVariables false

set_option maxHeartbeats 400000 in
theorem isTable_yes (p f : Int) (w : World) (h : (3 ≤ p ∧ p ≤ 60) ∧ (0 ≤ f ∧ f < p)) :
    Calls Try.prog 44 #[.int .i64 p, .int .i64 f] w fun e w' => e = .returned (.bool true) ∧ w = w' := by
  go_enter Try.func44, Try.ntmps44
  go_wp2_with (first | (go_at_call 59; (with_reducible refine (isPointCount_yes _ _ h.1).mono ?_); rintro e w1 ⟨rfl, rfl⟩) | (go_at_call 45; (with_reducible refine (isPoint_yes _ _ _ h.2).mono ?_); rintro e w1 ⟨rfl, rfl⟩))
  go_ret
  exact ⟨rfl, rfl⟩

set_option maxHeartbeats 400000 in
theorem isTable_no (p f : Int) (w : World) (h : ¬ ((3 ≤ p ∧ p ≤ 60) ∧ (0 ≤ f ∧ f < p))) :
    Calls Try.prog 44 #[.int .i64 p, .int .i64 f] w fun e w' => e = .returned (.bool false) ∧ w = w' := by
  by_cases h1 : 3 ≤ p ∧ p ≤ 60
  · have h2 : ¬ (0 ≤ f ∧ f < p) := fun g => h ⟨h1, g⟩
    clear h
    go_enter Try.func44, Try.ntmps44
    go_wp2_with (first | (go_at_call 59; (with_reducible refine (isPointCount_yes _ _ h1).mono ?_); rintro e w1 ⟨rfl, rfl⟩) | (go_at_call 45; (with_reducible refine (isPoint_no _ _ _ h2).mono ?_); rintro e w1 ⟨rfl, rfl⟩))
    go_ret
    exact ⟨rfl, rfl⟩
  · clear h
    go_enter Try.func44, Try.ntmps44
    go_wp2_with (first | (go_at_call 59; (with_reducible refine (isPointCount_no _ _ h1).mono ?_); rintro e w1 ⟨rfl, rfl⟩))
    go_ret
    exact ⟨rfl, rfl⟩

set_option maxHeartbeats 400000 in
theorem taGood_yes (p f : Int) (w : World) (h : (3 ≤ p ∧ p ≤ 60) ∧ (0 ≤ f ∧ f < p)) :
    Calls Try.prog 47 #[.int .i64 p, .int .i64 f] w fun e w' => e = .returned (.bool true) ∧ w = w' := by
  have hp := h.1
  go_enter Try.func47, Try.ntmps47
  go_wp2_with (first | (go_at_call 58; (with_reducible refine (srPoints_yes _ _ hp).mono ?_); rintro e w1 ⟨rfl, rfl⟩) | (go_at_call 43; (with_reducible refine (l1In_yes _ _ _ _ (by omega)).mono ?_); rintro e w1 ⟨rfl, rfl⟩))
  go_ret
  exact ⟨rfl, rfl⟩

set_option maxHeartbeats 400000 in
theorem taGood_no (p f : Int) (w : World) (h : ¬ ((3 ≤ p ∧ p ≤ 60) ∧ (0 ≤ f ∧ f < p))) :
    Calls Try.prog 47 #[.int .i64 p, .int .i64 f] w fun e w' => e = .returned (.bool false) ∧ w = w' := by
  by_cases h1 : 3 ≤ p ∧ p ≤ 60
  · have h2 : ¬ (0 ≤ f ∧ f ≤ p - 1) := fun g => h ⟨h1, by omega⟩
    clear h
    go_enter Try.func47, Try.ntmps47
    go_wp2_with (first | (go_at_call 58; (with_reducible refine (srPoints_yes _ _ h1).mono ?_); rintro e w1 ⟨rfl, rfl⟩) | (go_at_call 43; (with_reducible refine (l1In_no _ _ _ _ h2).mono ?_); rintro e w1 ⟨rfl, rfl⟩))
    go_ret
    exact ⟨rfl, rfl⟩
  · clear h
    go_enter Try.func47, Try.ntmps47
    go_wp2_with (first | (go_at_call 58; (with_reducible refine (srPoints_no _ _ h1).mono ?_); rintro e w1 ⟨rfl, rfl⟩))
    go_ret
    exact ⟨rfl, rfl⟩

set_option maxHeartbeats 400000 in
theorem taAsked_yes (p f k : Int) (w : World) (h : (3 ≤ p ∧ p ≤ 60) ∧ (0 ≤ f ∧ f < p)) (hk : 0 ≤ k ∧ k < p) :
    Calls Try.prog 42 #[.int .i64 p, .int .i64 f, .int .i64 k] w fun e w' => e = .returned (.bool true) ∧ w = w' := by
  have hp := h.1
  go_enter Try.func42, Try.ntmps42
  go_wp2_with (first | (go_at_call 47; (with_reducible refine (taGood_yes _ _ _ h).mono ?_); rintro e w1 ⟨rfl, rfl⟩) | (go_at_call 43; (with_reducible refine (l1In_yes _ _ _ _ (by omega)).mono ?_); rintro e w1 ⟨rfl, rfl⟩))
  go_ret
  exact ⟨rfl, rfl⟩

set_option maxHeartbeats 400000 in
theorem taAsked_no (p f k : Int) (w : World) (h : ¬ (((3 ≤ p ∧ p ≤ 60) ∧ (0 ≤ f ∧ f < p)) ∧ (0 ≤ k ∧ k < p))) :
    Calls Try.prog 42 #[.int .i64 p, .int .i64 f, .int .i64 k] w fun e w' => e = .returned (.bool false) ∧ w = w' := by
  by_cases h1 : (3 ≤ p ∧ p ≤ 60) ∧ (0 ≤ f ∧ f < p)
  · have h2 : ¬ (0 ≤ k ∧ k ≤ p - 1) := fun g => h ⟨h1, by omega⟩
    have hp := h1.1
    clear h
    go_enter Try.func42, Try.ntmps42
    go_wp2_with (first | (go_at_call 47; (with_reducible refine (taGood_yes _ _ _ h1).mono ?_); rintro e w1 ⟨rfl, rfl⟩) | (go_at_call 43; (with_reducible refine (l1In_no _ _ _ _ h2).mono ?_); rintro e w1 ⟨rfl, rfl⟩))
    go_ret
    exact ⟨rfl, rfl⟩
  · clear h
    go_enter Try.func42, Try.ntmps42
    go_wp2_with (first | (go_at_call 47; (with_reducible refine (taGood_no _ _ _ h1).mono ?_); rintro e w1 ⟨rfl, rfl⟩))
    go_ret
    exact ⟨rfl, rfl⟩

theorem mul_bd60 {a b : Nat} (ha : a < 60) (hb : b < 60) : 0 ≤ (a : Int) * (b : Int) ∧ (a : Int) * (b : Int) ≤ 3600 :=
  ⟨Int.mul_nonneg (by omega) (by omega), Int.le_trans (Int.mul_le_mul (show (a : Int) ≤ 60 by omega) (show (b : Int) ≤ 60 by omega) (by omega) (by omega)) (by omega)⟩

set_option maxHeartbeats 1000000 in
theorem powFn_any (p f n r ga gb : Nat) (hr : f ^ n % p = r) (w : World) (ca : w.cell? ⟨ga, 0, none⟩ = some (.int .i64 f)) (cb : w.cell? ⟨gb, 0, none⟩ = some (.int .i64 p)) (h : 3 ≤ p ∧ p ≤ 60) (hf : f < p) (hn : n ≤ 1000000) :
    Calls Try.prog 68 #[.int .i64 n, .pointer (some ⟨ga, 0, none⟩), .pointer (some ⟨gb, 0, none⟩)] w fun e w' => e = .returned (.int .i64 (r : Nat)) ∧ w = w' := by
  have h1 : 1 % p = 1 := Nat.mod_eq_of_lt (by omega)
  have H1 := Lib.hid (show 1 * f ^ n % p = r by rw [Nat.one_mul, hr])
  clear h1 hr
  obtain ⟨hp1, hp2⟩ := h
  go_enter Try.func68, Try.ntmps68
  go_wp2
  go_loop [0, 5, 6] (fun u v x => ∃ t a s : Nat, t ≤ 1000000 ∧ a < p ∧ s < p ∧ Hid (a * s ^ t % p = r) ∧ u = .int .i64 t ∧ v = .int .i64 a ∧ x = .int .i64 s) (fun u _ _ => (intOf u).toNat)
  case atStart => exact ⟨n, 1, f, hn, by omega, hf, H1, rfl, rfl, rfl⟩
  case round =>
    obtain ⟨t, a, s, ht, ha, hs, HR, rfl, rfl, rfl⟩ := hrel
    by_cases h0 : t = 0
    · subst h0
      have e : a = r := by have := HR.out; rw [Nat.pow_zero, Nat.mul_one, Nat.mod_eq_of_lt ha] at this; exact this
      have HE := Lib.hid e
      clear e
      go_wp2
      go_ret
      exact ⟨by rw [HE.out]; rfl, rfl⟩
    · have t1 : 0 < (t : Int) := by omega
      obtain ⟨m1, m2⟩ := mul_bd60 (a := a) (b := s) (by omega) (by omega)
      obtain ⟨m3, m4⟩ := mul_bd60 (a := s) (b := s) (by omega) (by omega)
      have hp0 : 0 < p := by omega
      have la := Nat.mod_lt (a * s) hp0
      have ls := Nat.mod_lt (s * s) hp0
      by_cases ho : t % 2 = 1
      · have e1 : ((t : Int) % 2 == 1) = true := beq_iff_eq.2 (by omega)
        have HN := Lib.hid ((pow_odd p a s t ho).trans HR.out)
        clear ho
        go_wp2
        go_round
        case rel => exact ⟨t / 2, a * s % p, s * s % p, by omega, la, ls, HN, by first | rfl | simp, by first | rfl | simp, by first | rfl | simp⟩
        case measure => simp [intOf]; omega
      · have e1 : ((t : Int) % 2 == 1) = false := beq_eq_false_iff_ne.2 (by omega)
        have HN := Lib.hid ((pow_even p a s t (by omega)).trans HR.out)
        clear ho
        go_wp2
        go_round
        case rel => exact ⟨t / 2, a, s * s % p, by omega, ha, ls, HN, by first | rfl | simp, by first | rfl | simp, by first | rfl | simp⟩
        case measure => simp [intOf]; omega

set_option maxHeartbeats 400000 in
theorem powersOf_any (p f : Nat) (w : World) :
    Calls Try.prog 46 #[.int .i64 p, .int .i64 f] w fun e w' => ∃ ga gb : Nat, e = .returned (.func (.func 68) #[] #[.pointer (some ⟨ga, 0, none⟩), .pointer (some ⟨gb, 0, none⟩)]) ∧ w'.cell? ⟨ga, 0, none⟩ = some (.int .i64 f) ∧ w'.cell? ⟨gb, 0, none⟩ = some (.int .i64 p) ∧ Below w.heap.size w w' := by
  go_enter Try.func46, Try.ntmps46
  go_wp2
  go_ret
  exact ⟨_, _, rfl, by go_simp, by go_simp, by go_grown⟩

end Go.Proofs.Ytincoaebdmikbaa
