/- Closed words, counted: the model's recursion. -/
import Derived.Test.YtbgcbokddldmkaaDoorCc1
import Derived.Test.YtbgcbokddldmkaaDoorW1
import Derived.Deep.RegionHeld3
namespace Go.Proofs.YtbgcbokddldmkaaDoor
open Go.RowKit
set_option linter.unusedVariables false

set_option maxHeartbeats 400000 in
theorem isGrid_yes (g : Int) (w : World) (h : isG g) : Calls Tryd.prog 96 #[.int .i64 g] w fun e w' => e = .returned (.bool true) ∧ w = w' := by
  rcases h with rfl | rfl
  · go_enter Tryd.func96, Tryd.ntmps96
    go_wp2
    go_ret
    exact ⟨rfl, rfl⟩
  · go_enter Tryd.func96, Tryd.ntmps96
    go_wp2
    go_ret
    exact ⟨rfl, rfl⟩

set_option maxHeartbeats 400000 in
theorem isGrid_no (g : Int) (w : World) (h : ¬ isG g) : Calls Tryd.prog 96 #[.int .i64 g] w fun e w' => e = .returned (.bool false) ∧ w = w' := by
  have h4 : (g == 4) = false := beq_eq_false_iff_ne.2 fun e => h (.inl e)
  have h6 : (g == 6) = false := beq_eq_false_iff_ne.2 fun e => h (.inr e)
  go_enter Tryd.func96, Tryd.ntmps96
  go_wp2
  go_ret
  exact ⟨rfl, rfl⟩

set_option maxHeartbeats 400000 in
theorem paGrid_yes (g : Int) (w : World) (h : isG g) : Calls Tryd.prog 94 #[.int .i64 g] w fun e w' => e = .returned (.bool true) ∧ w = w' := by
  rcases h with rfl | rfl
  · go_enter Tryd.func94, Tryd.ntmps94
    go_wp2
    go_ret
    exact ⟨rfl, rfl⟩
  · go_enter Tryd.func94, Tryd.ntmps94
    go_wp2
    go_ret
    exact ⟨rfl, rfl⟩

set_option maxHeartbeats 400000 in
theorem paGrid_no (g : Int) (w : World) (h : ¬ isG g) : Calls Tryd.prog 94 #[.int .i64 g] w fun e w' => e = .returned (.bool false) ∧ w = w' := by
  have h4 : (g == 4) = false := beq_eq_false_iff_ne.2 fun e => h (.inl e)
  have h6 : (g == 6) = false := beq_eq_false_iff_ne.2 fun e => h (.inr e)
  go_enter Tryd.func94, Tryd.ntmps94
  go_wp2
  go_ret
  exact ⟨rfl, rfl⟩

set_option maxHeartbeats 1000000 in
theorem paWay_4_0 (w : World) : Calls Tryd.prog 125 #[.int .i64 4, .int .i64 0] w fun e w' => ∃ b, e = .returned (.slice (some ⟨b, 0, none⟩) 2 2) ∧ w'.cell? ⟨b, 0, none⟩ = some (.int .i64 1) ∧ w'.cell? ⟨b, 1, none⟩ = some (.int .i64 0) ∧ Below w.heap.size w w' := by
  go_enter Tryd.func125, Tryd.ntmps125
  go_wp2
  go_ret
  exact ⟨_, rfl, by go_simp, by go_simp, by go_grown⟩

set_option maxHeartbeats 1000000 in
theorem paWay_4_1 (w : World) : Calls Tryd.prog 125 #[.int .i64 4, .int .i64 1] w fun e w' => ∃ b, e = .returned (.slice (some ⟨b, 0, none⟩) 2 2) ∧ w'.cell? ⟨b, 0, none⟩ = some (.int .i64 0) ∧ w'.cell? ⟨b, 1, none⟩ = some (.int .i64 1) ∧ Below w.heap.size w w' := by
  go_enter Tryd.func125, Tryd.ntmps125
  go_wp2
  go_ret
  exact ⟨_, rfl, by go_simp, by go_simp, by go_grown⟩

set_option maxHeartbeats 1000000 in
theorem paWay_4_2 (w : World) : Calls Tryd.prog 125 #[.int .i64 4, .int .i64 2] w fun e w' => ∃ b, e = .returned (.slice (some ⟨b, 0, none⟩) 2 2) ∧ w'.cell? ⟨b, 0, none⟩ = some (.int .i64 (-1)) ∧ w'.cell? ⟨b, 1, none⟩ = some (.int .i64 0) ∧ Below w.heap.size w w' := by
  go_enter Tryd.func125, Tryd.ntmps125
  go_wp2
  go_ret
  exact ⟨_, rfl, by go_simp, by go_simp, by go_grown⟩

set_option maxHeartbeats 1000000 in
theorem paWay_4_3 (w : World) : Calls Tryd.prog 125 #[.int .i64 4, .int .i64 3] w fun e w' => ∃ b, e = .returned (.slice (some ⟨b, 0, none⟩) 2 2) ∧ w'.cell? ⟨b, 0, none⟩ = some (.int .i64 0) ∧ w'.cell? ⟨b, 1, none⟩ = some (.int .i64 (-1)) ∧ Below w.heap.size w w' := by
  go_enter Tryd.func125, Tryd.ntmps125
  go_wp2
  go_ret
  exact ⟨_, rfl, by go_simp, by go_simp, by go_grown⟩

set_option maxHeartbeats 1000000 in
theorem paWay_6_0 (w : World) : Calls Tryd.prog 125 #[.int .i64 6, .int .i64 0] w fun e w' => ∃ b, e = .returned (.slice (some ⟨b, 0, none⟩) 2 2) ∧ w'.cell? ⟨b, 0, none⟩ = some (.int .i64 1) ∧ w'.cell? ⟨b, 1, none⟩ = some (.int .i64 0) ∧ Below w.heap.size w w' := by
  go_enter Tryd.func125, Tryd.ntmps125
  go_wp2
  go_ret
  exact ⟨_, rfl, by go_simp, by go_simp, by go_grown⟩

set_option maxHeartbeats 1000000 in
theorem paWay_6_1 (w : World) : Calls Tryd.prog 125 #[.int .i64 6, .int .i64 1] w fun e w' => ∃ b, e = .returned (.slice (some ⟨b, 0, none⟩) 2 2) ∧ w'.cell? ⟨b, 0, none⟩ = some (.int .i64 0) ∧ w'.cell? ⟨b, 1, none⟩ = some (.int .i64 1) ∧ Below w.heap.size w w' := by
  go_enter Tryd.func125, Tryd.ntmps125
  go_wp2
  go_ret
  exact ⟨_, rfl, by go_simp, by go_simp, by go_grown⟩

set_option maxHeartbeats 1000000 in
theorem paWay_6_2 (w : World) : Calls Tryd.prog 125 #[.int .i64 6, .int .i64 2] w fun e w' => ∃ b, e = .returned (.slice (some ⟨b, 0, none⟩) 2 2) ∧ w'.cell? ⟨b, 0, none⟩ = some (.int .i64 (-1)) ∧ w'.cell? ⟨b, 1, none⟩ = some (.int .i64 1) ∧ Below w.heap.size w w' := by
  go_enter Tryd.func125, Tryd.ntmps125
  go_wp2
  go_ret
  exact ⟨_, rfl, by go_simp, by go_simp, by go_grown⟩

set_option maxHeartbeats 1000000 in
theorem paWay_6_3 (w : World) : Calls Tryd.prog 125 #[.int .i64 6, .int .i64 3] w fun e w' => ∃ b, e = .returned (.slice (some ⟨b, 0, none⟩) 2 2) ∧ w'.cell? ⟨b, 0, none⟩ = some (.int .i64 (-1)) ∧ w'.cell? ⟨b, 1, none⟩ = some (.int .i64 0) ∧ Below w.heap.size w w' := by
  go_enter Tryd.func125, Tryd.ntmps125
  go_wp2
  go_ret
  exact ⟨_, rfl, by go_simp, by go_simp, by go_grown⟩

set_option maxHeartbeats 1000000 in
theorem paWay_6_4 (w : World) : Calls Tryd.prog 125 #[.int .i64 6, .int .i64 4] w fun e w' => ∃ b, e = .returned (.slice (some ⟨b, 0, none⟩) 2 2) ∧ w'.cell? ⟨b, 0, none⟩ = some (.int .i64 0) ∧ w'.cell? ⟨b, 1, none⟩ = some (.int .i64 (-1)) ∧ Below w.heap.size w w' := by
  go_enter Tryd.func125, Tryd.ntmps125
  go_wp2
  go_ret
  exact ⟨_, rfl, by go_simp, by go_simp, by go_grown⟩

set_option maxHeartbeats 1000000 in
theorem paWay_6_5 (w : World) : Calls Tryd.prog 125 #[.int .i64 6, .int .i64 5] w fun e w' => ∃ b, e = .returned (.slice (some ⟨b, 0, none⟩) 2 2) ∧ w'.cell? ⟨b, 0, none⟩ = some (.int .i64 1) ∧ w'.cell? ⟨b, 1, none⟩ = some (.int .i64 (-1)) ∧ Below w.heap.size w w' := by
  go_enter Tryd.func125, Tryd.ntmps125
  go_wp2
  go_ret
  exact ⟨_, rfl, by go_simp, by go_simp, by go_grown⟩

theorem paWay_any (g d : Int) (w : World) (hg : isG g) (h0 : 0 ≤ d) (h1 : d < g) : Calls Tryd.prog 125 #[.int .i64 g, .int .i64 d] w fun e w' => ∃ b, e = .returned (.slice (some ⟨b, 0, none⟩) 2 2) ∧ w'.cell? ⟨b, 0, none⟩ = some (.int .i64 (stepG' g d).1) ∧ w'.cell? ⟨b, 1, none⟩ = some (.int .i64 (stepG' g d).2) ∧ Below w.heap.size w w' := by
  rcases hg with rfl | rfl
  · rcases (show d = 0 ∨ d = 1 ∨ d = 2 ∨ d = 3 by omega) with rfl | rfl | rfl | rfl
    · exact paWay_4_0 w
    · exact paWay_4_1 w
    · exact paWay_4_2 w
    · exact paWay_4_3 w
  · rcases (show d = 0 ∨ d = 1 ∨ d = 2 ∨ d = 3 ∨ d = 4 ∨ d = 5 by omega) with rfl | rfl | rfl | rfl | rfl | rfl
    · exact paWay_6_0 w
    · exact paWay_6_1 w
    · exact paWay_6_2 w
    · exact paWay_6_3 w
    · exact paWay_6_4 w
    · exact paWay_6_5 w

theorem paCount_zero (g x y d : Int) (w : World) : Calls Tryd.prog 95 #[.int .i64 g, .int .i64 x, .int .i64 y, .int .i64 d, .int .i64 0] w fun e w' => e = .returned (.int .i64 (cntP g 0 (x, y, d))) ∧ Below w.heap.size w w' := by
  by_cases hx : x = 0
  · by_cases hy : y = 0
    · by_cases hd : d = 0
      · subst hx hy hd
        rw [show cntP g 0 (0, 0, 0) = 1 from rfl]
        go_enter Tryd.func95, Tryd.ntmps95
        go_wp2
        go_ret
        exact ⟨rfl, Below.refl _ _⟩
      · have e : cntP g 0 (x, y, d) = 0 := by unfold cntP; rw [if_neg fun h => hd (congrArg (fun p => p.2.2) h)]
        have hd' : (d == 0) = false := beq_eq_false_iff_ne.2 hd
        rw [e]
        subst hx hy
        clear e hd
        go_enter Tryd.func95, Tryd.ntmps95
        go_wp2
        go_ret
        exact ⟨rfl, Below.refl _ _⟩
    · have e : cntP g 0 (x, y, d) = 0 := by unfold cntP; rw [if_neg fun h => hy (congrArg (fun p => p.2.1) h)]
      have hy' : (y == 0) = false := beq_eq_false_iff_ne.2 hy
      rw [e]
      subst hx
      clear e hy
      go_enter Tryd.func95, Tryd.ntmps95
      go_wp2
      go_ret
      exact ⟨rfl, Below.refl _ _⟩
  · have e : cntP g 0 (x, y, d) = 0 := by unfold cntP; rw [if_neg fun h => hx (congrArg (fun p => p.1) h)]
    have hx' : (x == 0) = false := beq_eq_false_iff_ne.2 hx
    rw [e]
    clear e hx
    go_enter Tryd.func95, Tryd.ntmps95
    go_wp2
    go_ret
    exact ⟨rfl, Below.refl _ _⟩

set_option maxHeartbeats 2000000 in
theorem paCount_step (g x y d X Y D E dx dy cF cL cR : Int) (n : Nat) (w : World) (hn : n + 1 ≤ 10) (g0 : ¬ g = 0)
    (hW : ∀ W, Calls Tryd.prog 125 #[.int .i64 g, .int .i64 d] W fun e w' => ∃ b, e = .returned (.slice (some ⟨b, 0, none⟩) 2 2) ∧ w'.cell? ⟨b, 0, none⟩ = some (.int .i64 dx) ∧ w'.cell? ⟨b, 1, none⟩ = some (.int .i64 dy) ∧ Below W.heap.size W w')
    (e1 : IntKind.i64.wrap (x + dx) = X) (e2 : IntKind.i64.wrap (y + dy) = Y) (e3 : IntKind.i64.wrap (d + 1) = d + 1) (e4 : Int.tmod (d + 1) g = D) (e4' : IntKind.i64.wrap D = D) (e5 : IntKind.i64.wrap (d + g) = d + g) (e6 : IntKind.i64.wrap (d + g - 1) = d + g - 1) (e7 : Int.tmod (d + g - 1) g = E) (e7' : IntKind.i64.wrap E = E)
    (e8 : IntKind.i64.wrap (cF + cL) = cF + cL) (e9 : IntKind.i64.wrap (cF + cL + cR) = cF + cL + cR)
    (hF : ∀ W, Calls Tryd.prog 95 #[.int .i64 g, .int .i64 X, .int .i64 Y, .int .i64 d, .int .i64 n] W fun e w' => e = .returned (.int .i64 cF) ∧ Below W.heap.size W w')
    (hL : ∀ W, Calls Tryd.prog 95 #[.int .i64 g, .int .i64 x, .int .i64 y, .int .i64 D, .int .i64 n] W fun e w' => e = .returned (.int .i64 cL) ∧ Below W.heap.size W w')
    (hR : ∀ W, Calls Tryd.prog 95 #[.int .i64 g, .int .i64 x, .int .i64 y, .int .i64 E, .int .i64 n] W fun e w' => e = .returned (.int .i64 cR) ∧ Below W.heap.size W w') :
    Calls Tryd.prog 95 #[.int .i64 g, .int .i64 x, .int .i64 y, .int .i64 d, .int .i64 ((n + 1 : Nat) : Int)] w fun e w' => e = .returned (.int .i64 (cF + cL + cR)) ∧ Below w.heap.size w w' := by
  have HW := Lib.hid hW
  have HF := Lib.hid hF
  have HL := Lib.hid hL
  have HR := Lib.hid hR
  obtain ⟨m, hm⟩ : ∃ m, ((n + 1 : Nat) : Int) = m := ⟨_, rfl⟩
  have m0 : (m == 0) = false := beq_eq_false_iff_ne.2 (by omega)
  have m1 : ¬ m = 0 := by omega
  have m2 : IntKind.i64.wrap (m - 1) = (n : Int) := by rw [IntKind.wrap_i64]; omega
  rw [hm]
  clear hW hF hL hR hm hn
  go_enter Tryd.func95, Tryd.ntmps95
  go_wp2_with (first | (go_at_call 125; (refine (HW.out _).mono ?_); rintro e w1 ⟨b, rfl, c0, c1, hb1⟩; have hz1 := hb1.size))
  go_region_held3 (fun w' => w'.cell? ⟨b, 0, none⟩ = some (.int .i64 dx) ∧ w'.cell? ⟨b, 1, none⟩ = some (.int .i64 dy)) (go_keep)
    (first
      | (go_at_call 95; (with_reducible refine (HF.out _).mono ?_); rintro e w2 ⟨rfl, hb2⟩; (have d0 := cellB (show Below w1.heap.size w1 w2 from Below.trans (by go_grown) (hb2.mono (by first | omega | (simp; done) | (simp; omega)))) c0); (have d1 := cellB (show Below w1.heap.size w1 w2 from Below.trans (by go_grown) (hb2.mono (by first | omega | (simp; done) | (simp; omega)))) c1); (have hB2 : Below w1.heap.size w1 w2 := Below.trans (by go_grown) (hb2.mono (by first | omega | (simp; done) | (simp; omega)))); have hz2 := hB2.size)
      | (go_at_call 95; (with_reducible refine (HL.out _).mono ?_); rintro e w3 ⟨rfl, hb3⟩; (have hB3 : Below w1.heap.size w1 w3 := hB2.trans (Below.trans (by go_grown) (hb3.mono (by first | omega | (simp; done) | (simp; omega))))); (have d2 := cellB hB3 c0); (have d3 := cellB hB3 c1); have hz3 := hB3.size)
      | (go_at_call 95; (with_reducible refine (HR.out _).mono ?_); rintro e w4 ⟨rfl, hb4⟩; (have hB4 : Below w1.heap.size w1 w4 := hB3.trans (Below.trans (by go_grown) (hb4.mono (by first | omega | (simp; done) | (simp; omega))))); (have d4 := cellB hB4 c0); (have d5 := cellB hB4 c1)))
  all_goals
    go_wp2
    go_ret
    exact ⟨rfl, hb1.trans (hB4.mono hz1)⟩

theorem wrapX (x : Int) (h : -1000000000 ≤ x ∧ x ≤ 1000000000) : IntKind.i64.wrap x = x := by rw [IntKind.wrap_i64]; omega

theorem paCount_any (g : Int) (hg : isG g) : ∀ (n m : Nat) (p : Tri), okP g m p → m + n ≤ 10 → ∀ w : World, Calls Tryd.prog 95 #[.int .i64 g, .int .i64 p.1, .int .i64 p.2.1, .int .i64 p.2.2, .int .i64 (n : Int)] w fun e w' => e = .returned (.int .i64 (cntP g n p)) ∧ Below w.heap.size w w'
  | 0, m, p, _, _, w => paCount_zero g p.1 p.2.1 p.2.2 w
  | n + 1, m, p, hp, hmn, w => by
    obtain ⟨⟨h1, h2⟩, ⟨h3, h4⟩, h5, h6⟩ := id hp
    have hs := step_small hg h5 h6
    have hg4 : 0 < g ∧ g ≤ 6 := by rcases hg with rfl | rfl <;> omega
    have hF := paCount_any g hg n (m + 1) (nxtP g 0 p) (okP_next hg hp 0) (by omega)
    have hL := paCount_any g hg n (m + 1) (nxtP g 1 p) (okP_next hg hp 1) (by omega)
    have hR := paCount_any g hg n (m + 1) (nxtP g 2 p) (okP_next hg hp 2) (by omega)
    have b0 := cntP_bounds g n (nxtP g 0 p)
    have b1 := cntP_bounds g n (nxtP g 1 p)
    have b2 := cntP_bounds g n (nxtP g 2 p)
    have hp3 := pow3_le (n := n) (by omega)
    have q1 := Int.emod_nonneg (p.2.2 + 1) (show g ≠ 0 by omega)
    have q2 := Int.emod_lt_of_pos (p.2.2 + 1) hg4.1
    have q3 := Int.emod_nonneg (p.2.2 + g - 1) (show g ≠ 0 by omega)
    have q4 := Int.emod_lt_of_pos (p.2.2 + g - 1) hg4.1
    exact paCount_step g p.1 p.2.1 p.2.2 (nxtP g 0 p).1 (nxtP g 0 p).2.1 (nxtP g 1 p).2.2 (nxtP g 2 p).2.2 _ _ _ _ _ n w (by omega) (by omega) (fun W => paWay_any g p.2.2 W hg h5 h6)
      (wrapX _ (by omega)) (wrapX _ (by omega)) (wrapX _ (by omega)) (Int.tmod_eq_emod_of_nonneg (by omega)) (wrapX _ (by simp only [nxtP]; omega)) (wrapX _ (by omega)) (wrapX _ (by omega)) (Int.tmod_eq_emod_of_nonneg (by omega)) (wrapX _ (by simp only [nxtP]; omega))
      (wrapX _ (by omega)) (wrapX _ (by omega)) hF hL hR

set_option maxHeartbeats 400000 in
theorem sCountClosed_yes (g : Int) (n : Nat) (w : World) (hg : isG g) (hn : n ≤ 10) : Calls Tryd.prog 50 #[.int .i64 g, .int .i64 (n : Int)] w fun e w' => e = .returned (.tuple #[.int .i64 (cntP g n homeP), .bool true]) ∧ Below w.heap.size w w' := by
  have HC := Lib.hid (fun W => paCount_any g hg n 0 homeP (okP_home hg) (by omega) W)
  have HG := Lib.hid hg
  clear hg
  simp only [homeP] at HC ⊢
  go_enter Tryd.func50, Tryd.ntmps50
  go_wp2_with (first | (go_at_call 94; (with_reducible refine (paGrid_yes _ _ HG.out).mono ?_); rintro e w1 ⟨rfl, rfl⟩) | (go_at_call 61; (with_reducible refine (l1In_yes _ _ _ _ (by omega)).mono ?_); rintro e w1 ⟨rfl, rfl⟩) | (go_at_call 95; (refine (HC.out _).mono ?_); rintro e w1 ⟨rfl, hb1⟩))
  go_ret2
  exact ⟨rfl, hb1⟩

set_option maxHeartbeats 400000 in
theorem sCountClosed_no1 (g n : Int) (w : World) (hg : ¬ isG g) : Calls Tryd.prog 50 #[.int .i64 g, .int .i64 n] w fun e w' => e = .returned (.tuple #[.int .i64 0, .bool false]) ∧ Below w.heap.size w w' := by
  go_enter Tryd.func50, Tryd.ntmps50
  go_wp2_with (first | (go_at_call 94; (with_reducible refine (paGrid_no _ _ hg).mono ?_); rintro e w1 ⟨rfl, rfl⟩))
  go_ret2
  exact ⟨rfl, Below.refl _ _⟩

set_option maxHeartbeats 400000 in
theorem sCountClosed_no2 (g n : Int) (w : World) (hg : isG g) (hn : ¬ (0 ≤ n ∧ n ≤ 10)) : Calls Tryd.prog 50 #[.int .i64 g, .int .i64 n] w fun e w' => e = .returned (.tuple #[.int .i64 0, .bool false]) ∧ Below w.heap.size w w' := by
  go_enter Tryd.func50, Tryd.ntmps50
  go_wp2_with (first | (go_at_call 94; (with_reducible refine (paGrid_yes _ _ hg).mono ?_); rintro e w1 ⟨rfl, rfl⟩) | (go_at_call 61; (with_reducible refine (l1In_no _ _ _ _ hn).mono ?_); rintro e w1 ⟨rfl, rfl⟩))
  go_ret2
  exact ⟨rfl, Below.refl _ _⟩

end Go.Proofs.YtbgcbokddldmkaaDoor
