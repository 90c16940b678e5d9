/- Times tables: points behind lines. -/
import Derived.Test.YtincoaebdmikbaaT2
namespace Go.Proofs.Ytincoaebdmikbaa
open Go.RowKit
set_option linter.unusedVariables false

set_option maxHeartbeats 1000000 in
theorem iTimesAfter_yes (p f k n r : Nat) (w : World) (h : 3 ≤ p ∧ p ≤ 60) (hf : f < p) (hk : k < p) (hn : n ≤ 1000000) (hr : k * f ^ n % p = r) :
    Calls Try.prog 18 #[.int .i64 p, .int .i64 f, .int .i64 k, .int .i64 n] w fun e w' => e = .returned (.tuple #[.int .i64 r, .bool true]) ∧ Below w.heap.size w w' := by
  obtain ⟨x, hx⟩ : ∃ x, f ^ n % p = x := ⟨_, rfl⟩
  have hx2 : x < p := by rw [← hx]; exact Nat.mod_lt _ (by omega)
  have hq0 : k * x % p = r := by rw [← hr, ← hx, Nat.mul_mod_mod]
  have hq : (k : Int) * (x : Int) % (p : Int) = (r : Int) := by exact_mod_cast hq0
  have HQ := Lib.hid hq
  have HX := Lib.hid hx
  have g : (3 ≤ (p : Int) ∧ (p : Int) ≤ 60) ∧ (0 ≤ (f : Int) ∧ (f : Int) < p) := by omega
  clear hr hq hq0 hx
  obtain ⟨m1, m2⟩ := mul_bd60 (a := k) (b := x) (by omega) (by omega)
  go_enter Try.func18, Try.ntmps18
  go_wp2_with (first
    | (go_at_call 44; (with_reducible refine (isTable_yes _ _ _ g).mono ?_); rintro e w1 ⟨rfl, rfl⟩)
    | (go_at_call 45; (with_reducible refine (isPoint_yes _ _ _ (by omega)).mono ?_); rintro e w1 ⟨rfl, rfl⟩)
    | (go_at_call 46; (with_reducible refine (powersOf_any _ _ _).mono ?_); rintro e w1 ⟨ga, gb, rfl, ca, cb, hb⟩)
    | (go_at_call 68; (refine (powFn_any p f n x ga gb HX.out _ ca cb h hf hn).mono ?_); rintro e w2 ⟨rfl, rfl⟩))
  go_ret2
  exact ⟨by rw [← HQ.out]; rfl, hb⟩

set_option maxHeartbeats 400000 in
theorem iTimesAfter_no (p f k n : Int) (w : World) (h : ¬ ((((3 ≤ p ∧ p ≤ 60) ∧ (0 ≤ f ∧ f < p)) ∧ (0 ≤ k ∧ k < p)) ∧ (0 ≤ n ∧ n ≤ 1000000))) :
    Calls Try.prog 18 #[.int .i64 p, .int .i64 f, .int .i64 k, .int .i64 n] w fun e w' => e = .returned (.tuple #[.int .i64 0, .bool false]) ∧ Below w.heap.size w w' := by
  by_cases h1 : (3 ≤ p ∧ p ≤ 60) ∧ (0 ≤ f ∧ f < p)
  · by_cases h2 : 0 ≤ k ∧ k < p
    · by_cases h3 : 0 ≤ n
      · have h4 : ¬ n ≤ 1000000 := fun g => h ⟨⟨h1, h2⟩, h3, g⟩
        clear h
        go_enter Try.func18, Try.ntmps18
        go_wp2_with (first | (go_at_call 44; (with_reducible refine (isTable_yes _ _ _ h1).mono ?_); rintro e w1 ⟨rfl, rfl⟩) | (go_at_call 45; (with_reducible refine (isPoint_yes _ _ _ h2).mono ?_); rintro e w1 ⟨rfl, rfl⟩))
        go_ret2
        exact ⟨rfl, Below.refl _ _⟩
      · clear h
        go_enter Try.func18, Try.ntmps18
        go_wp2_with (first | (go_at_call 44; (with_reducible refine (isTable_yes _ _ _ h1).mono ?_); rintro e w1 ⟨rfl, rfl⟩) | (go_at_call 45; (with_reducible refine (isPoint_yes _ _ _ h2).mono ?_); rintro e w1 ⟨rfl, rfl⟩))
        go_ret2
        exact ⟨rfl, Below.refl _ _⟩
    · clear h
      go_enter Try.func18, Try.ntmps18
      go_wp2_with (first | (go_at_call 44; (with_reducible refine (isTable_yes _ _ _ h1).mono ?_); rintro e w1 ⟨rfl, rfl⟩) | (go_at_call 45; (with_reducible refine (isPoint_no _ _ _ h2).mono ?_); rintro e w1 ⟨rfl, rfl⟩))
      go_ret2
      exact ⟨rfl, Below.refl _ _⟩
  · clear h
    go_enter Try.func18, Try.ntmps18
    go_wp2_with (first | (go_at_call 44; (with_reducible refine (isTable_no _ _ _ h1).mono ?_); rintro e w1 ⟨rfl, rfl⟩))
    go_ret2
    exact ⟨rfl, Below.refl _ _⟩

set_option maxHeartbeats 1000000 in
theorem sTimesAfter_yes (p f k n r : Nat) (w : World) (h : 3 ≤ p ∧ p ≤ 60) (hf : f < p) (hk : k < p) (hn : n ≤ 1000000) (hr : k * f ^ n % p = r) :
    Calls Try.prog 17 #[.int .i64 p, .int .i64 f, .int .i64 k, .int .i64 n] w fun e w' => e = .returned (.tuple #[.int .i64 r, .bool true]) ∧ Below w.heap.size w w' := by
  have H1 := Lib.hid hr
  have g : (3 ≤ (p : Int) ∧ (p : Int) ≤ 60) ∧ (0 ≤ (f : Int) ∧ (f : Int) < p) := by omega
  clear hr
  obtain ⟨hp1, hp2⟩ := h
  go_enter Try.func17, Try.ntmps17
  go_wp2_with (first | (go_at_call 42; (with_reducible refine (taAsked_yes _ _ _ _ g (by omega)).mono ?_); rintro e w1 ⟨rfl, rfl⟩) | (go_at_call 43; (with_reducible refine (l1In_yes _ _ _ _ (by omega)).mono ?_); rintro e w1 ⟨rfl, rfl⟩))
  clear g
  go_loop [3, 2, 10] (fun u v x => ∃ t a s : Nat, t ≤ 1000000 ∧ a < p ∧ s < p ∧ Hid (a * s ^ t % p = r) ∧ u = .int .i64 t ∧ v = .int .i64 a ∧ x = .int .i64 s) (fun u _ _ => (intOf u).toNat)
  case atStart => exact ⟨n, k, f, hn, hk, hf, H1, rfl, rfl, rfl⟩
  case round =>
    obtain ⟨t, a, s, ht, ha, hs, HR, rfl, rfl, rfl⟩ := hrel
    by_cases h0 : t = 0
    · subst h0
      have e : a = r := by have := HR.out; rw [Nat.pow_zero, Nat.mul_one, Nat.mod_eq_of_lt ha] at this; exact this
      have HE := Lib.hid e
      clear e
      go_wp2
      go_ret2
      exact ⟨by rw [HE.out]; rfl, Below.refl _ _⟩
    · have t1 : 0 < (t : Int) := by omega
      obtain ⟨m1, m2⟩ := mul_bd60 (a := a) (b := s) (by omega) (by omega)
      obtain ⟨m3, m4⟩ := mul_bd60 (a := s) (b := s) (by omega) (by omega)
      have hp0 : 0 < p := by omega
      have la := Nat.mod_lt (a * s) hp0
      have ls := Nat.mod_lt (s * s) hp0
      by_cases ho : t % 2 = 1
      · have e1 : ((t : Int) % 2 == 1) = true := beq_iff_eq.2 (by omega)
        have HN := Lib.hid ((pow_odd p a s t ho).trans HR.out)
        clear ho
        go_wp2
        go_round
        case rel => exact ⟨t / 2, a * s % p, s * s % p, by omega, la, ls, HN, by first | rfl | simp, by first | rfl | simp, by first | rfl | simp⟩
        case measure => simp [intOf]; omega
      · have e1 : ((t : Int) % 2 == 1) = false := beq_eq_false_iff_ne.2 (by omega)
        have HN := Lib.hid ((pow_even p a s t (by omega)).trans HR.out)
        clear ho
        go_wp2
        go_round
        case rel => exact ⟨t / 2, a, s * s % p, by omega, ha, ls, HN, by first | rfl | simp, by first | rfl | simp, by first | rfl | simp⟩
        case measure => simp [intOf]; omega

set_option maxHeartbeats 400000 in
theorem sTimesAfter_no (p f k n : Int) (w : World) (h : ¬ ((((3 ≤ p ∧ p ≤ 60) ∧ (0 ≤ f ∧ f < p)) ∧ (0 ≤ k ∧ k < p)) ∧ (0 ≤ n ∧ n ≤ 1000000))) :
    Calls Try.prog 17 #[.int .i64 p, .int .i64 f, .int .i64 k, .int .i64 n] w fun e w' => e = .returned (.tuple #[.int .i64 0, .bool false]) ∧ Below w.heap.size w w' := by
  by_cases h1 : ((3 ≤ p ∧ p ≤ 60) ∧ (0 ≤ f ∧ f < p)) ∧ (0 ≤ k ∧ k < p)
  · have h2 : ¬ (0 ≤ n ∧ n ≤ 1000000) := fun g => h ⟨h1, g⟩
    clear h
    go_enter Try.func17, Try.ntmps17
    go_wp2_with (first | (go_at_call 42; (with_reducible refine (taAsked_yes _ _ _ _ h1.1 h1.2).mono ?_); rintro e w1 ⟨rfl, rfl⟩) | (go_at_call 43; (with_reducible refine (l1In_no _ _ _ _ h2).mono ?_); rintro e w1 ⟨rfl, rfl⟩))
    go_ret2
    exact ⟨rfl, Below.refl _ _⟩
  · clear h
    go_enter Try.func17, Try.ntmps17
    go_wp2_with (first | (go_at_call 42; (with_reducible refine (taAsked_no _ _ _ _ h1).mono ?_); rintro e w1 ⟨rfl, rfl⟩))
    go_ret2
    exact ⟨rfl, Below.refl _ _⟩

set_option maxHeartbeats 400000 in
theorem walk_TimesAfter (p f k n : Int) (w : World) (_ : (Lit.int .i64 p).wf = true) (_ : (Lit.int .i64 f).wf = true) (_ : (Lit.int .i64 k).wf = true) (_ : (Lit.int .i64 n).wf = true) :
    Calls Try.prog 4 #[.int .i64 p, .int .i64 f, .int .i64 k, .int .i64 n] w fun e w' => e = .returned (.bool true) ∧ Below w.heap.size w w' := by
  by_cases h : (((3 ≤ p ∧ p ≤ 60) ∧ (0 ≤ f ∧ f < p)) ∧ (0 ≤ k ∧ k < p)) ∧ (0 ≤ n ∧ n ≤ 1000000)
  · obtain ⟨p, rfl⟩ := Int.eq_ofNat_of_zero_le (show 0 ≤ p by omega)
    obtain ⟨f, rfl⟩ := Int.eq_ofNat_of_zero_le (show 0 ≤ f by omega)
    obtain ⟨k, rfl⟩ := Int.eq_ofNat_of_zero_le (show 0 ≤ k by omega)
    obtain ⟨n, rfl⟩ := Int.eq_ofNat_of_zero_le (show 0 ≤ n by omega)
    have h1 : 3 ≤ p ∧ p ≤ 60 := by omega
    have h2 : f < p := by omega
    have h3 : k < p := by omega
    have h4 : n ≤ 1000000 := by omega
    clear h
    obtain ⟨r, hr⟩ : ∃ r, k * f ^ n % p = r := ⟨_, rfl⟩
    have HR := Lib.hid hr
    clear hr
    go_enter Try.func4, Try.ntmps4
    go_wp2_with (first | (go_at_call 17; (with_reducible refine (sTimesAfter_yes p f k n r _ h1 h2 h3 h4 HR.out).mono ?_); rintro e w1 ⟨rfl, hb1⟩) | (go_at_call 18; (with_reducible refine (iTimesAfter_yes p f k n r _ h1 h2 h3 h4 HR.out).mono ?_); rintro e w2 ⟨rfl, hb2⟩))
    go_ret
    exact ⟨rfl, hb1.trans (hb2.mono hb1.size)⟩
  · go_enter Try.func4, Try.ntmps4
    go_wp2_with (first | (go_at_call 17; (with_reducible refine (sTimesAfter_no _ _ _ _ _ h).mono ?_); rintro e w1 ⟨rfl, hb1⟩) | (go_at_call 18; (with_reducible refine (iTimesAfter_no _ _ _ _ _ h).mono ?_); rintro e w2 ⟨rfl, hb2⟩))
    go_ret
    exact ⟨rfl, hb1.trans (hb2.mono hb1.size)⟩

set_option maxHeartbeats 400000 in
theorem iTimesPoint_yes (p f k r : Nat) (w : World) (h : 3 ≤ p ∧ p ≤ 60) (hf : f < p) (hk : k < p) (hr : k * f % p = r) :
    Calls Try.prog 16 #[.int .i64 p, .int .i64 f, .int .i64 k] w fun e w' => e = .returned (.tuple #[.int .i64 r, .bool true]) ∧ Below w.heap.size w w' := by
  have HR := Lib.hid (show k * f ^ 1 % p = r by rw [Nat.pow_one, hr])
  clear hr
  go_enter Try.func16, Try.ntmps16
  go_wp2_with (first | (go_at_call 18; (refine (iTimesAfter_yes p f k 1 r _ h hf hk (by omega) HR.out).mono ?_); rintro e w1 ⟨rfl, hb⟩))
  go_ret2
  exact ⟨rfl, hb⟩

set_option maxHeartbeats 400000 in
theorem iTimesPoint_no (p f k : Int) (w : World) (h : ¬ (((3 ≤ p ∧ p ≤ 60) ∧ (0 ≤ f ∧ f < p)) ∧ (0 ≤ k ∧ k < p))) :
    Calls Try.prog 16 #[.int .i64 p, .int .i64 f, .int .i64 k] w fun e w' => e = .returned (.tuple #[.int .i64 0, .bool false]) ∧ Below w.heap.size w w' := by
  go_enter Try.func16, Try.ntmps16
  go_wp2_with (first | (go_at_call 18; (refine (iTimesAfter_no p f k 1 _ (fun g => h g.1)).mono ?_); rintro e w1 ⟨rfl, hb⟩))
  go_ret2
  exact ⟨rfl, hb⟩

set_option maxHeartbeats 400000 in
theorem sTimesPoint_yes (p f k r : Nat) (w : World) (h : 3 ≤ p ∧ p ≤ 60) (hf : f < p) (hk : k < p) (hr : k * f % p = r) :
    Calls Try.prog 15 #[.int .i64 p, .int .i64 f, .int .i64 k] w fun e w' => e = .returned (.tuple #[.int .i64 r, .bool true]) ∧ Below w.heap.size w w' := by
  have HQ := Lib.hid (show (k : Int) * (f : Int) % (p : Int) = (r : Int) by rw [← hr]; simp)
  clear hr
  have g : (3 ≤ (p : Int) ∧ (p : Int) ≤ 60) ∧ (0 ≤ (f : Int) ∧ (f : Int) < p) := by omega
  obtain ⟨m1, m2⟩ := mul_bd60 (a := k) (b := f) (by omega) (by omega)
  go_enter Try.func15, Try.ntmps15
  go_wp2_with (first | (go_at_call 42; (with_reducible refine (taAsked_yes _ _ _ _ g (by omega)).mono ?_); rintro e w1 ⟨rfl, rfl⟩))
  go_ret2
  exact ⟨by rw [← HQ.out]; rfl, Below.refl _ _⟩

set_option maxHeartbeats 400000 in
theorem sTimesPoint_no (p f k : Int) (w : World) (h : ¬ (((3 ≤ p ∧ p ≤ 60) ∧ (0 ≤ f ∧ f < p)) ∧ (0 ≤ k ∧ k < p))) :
    Calls Try.prog 15 #[.int .i64 p, .int .i64 f, .int .i64 k] w fun e w' => e = .returned (.tuple #[.int .i64 0, .bool false]) ∧ Below w.heap.size w w' := by
  go_enter Try.func15, Try.ntmps15
  go_wp2_with (first | (go_at_call 42; (with_reducible refine (taAsked_no _ _ _ _ h).mono ?_); rintro e w1 ⟨rfl, rfl⟩))
  go_ret2
  exact ⟨rfl, Below.refl _ _⟩

set_option maxHeartbeats 400000 in
theorem walk_TimesPoint (p f k : Int) (w : World) (_ : (Lit.int .i64 p).wf = true) (_ : (Lit.int .i64 f).wf = true) (_ : (Lit.int .i64 k).wf = true) :
    Calls Try.prog 3 #[.int .i64 p, .int .i64 f, .int .i64 k] w fun e w' => e = .returned (.bool true) ∧ Below w.heap.size w w' := by
  by_cases h : ((3 ≤ p ∧ p ≤ 60) ∧ (0 ≤ f ∧ f < p)) ∧ (0 ≤ k ∧ k < p)
  · obtain ⟨p, rfl⟩ := Int.eq_ofNat_of_zero_le (show 0 ≤ p by omega)
    obtain ⟨f, rfl⟩ := Int.eq_ofNat_of_zero_le (show 0 ≤ f by omega)
    obtain ⟨k, rfl⟩ := Int.eq_ofNat_of_zero_le (show 0 ≤ k by omega)
    have h1 : 3 ≤ p ∧ p ≤ 60 := by omega
    have h2 : f < p := by omega
    have h3 : k < p := by omega
    clear h
    obtain ⟨r, hr⟩ : ∃ r, k * f % p = r := ⟨_, rfl⟩
    have HR := Lib.hid hr
    clear hr
    go_enter Try.func3, Try.ntmps3
    go_wp2_with (first | (go_at_call 15; (with_reducible refine (sTimesPoint_yes p f k r _ h1 h2 h3 HR.out).mono ?_); rintro e w1 ⟨rfl, hb1⟩) | (go_at_call 16; (with_reducible refine (iTimesPoint_yes p f k r _ h1 h2 h3 HR.out).mono ?_); rintro e w2 ⟨rfl, hb2⟩))
    go_ret
    exact ⟨rfl, hb1.trans (hb2.mono hb1.size)⟩
  · go_enter Try.func3, Try.ntmps3
    go_wp2_with (first | (go_at_call 15; (with_reducible refine (sTimesPoint_no _ _ _ _ h).mono ?_); rintro e w1 ⟨rfl, hb1⟩) | (go_at_call 16; (with_reducible refine (iTimesPoint_no _ _ _ _ h).mono ?_); rintro e w2 ⟨rfl, hb2⟩))
    go_ret
    exact ⟨rfl, hb1.trans (hb2.mono hb1.size)⟩

end Go.Proofs.Ytincoaebdmikbaa
