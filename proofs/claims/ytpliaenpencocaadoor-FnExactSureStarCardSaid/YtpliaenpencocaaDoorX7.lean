/- Which clues and puzzles there are, on both sides. -/
import Derived.Test.YtpliaenpencocaaDoorX6
import Derived.Deep.RegionHeld3
namespace Go.Proofs.YtpliaenpencocaaDoor
open Go.RowKit
set_option linter.unusedVariables false

theorem clueP_iff (k a b : Int) : clueP (k, a, b) ↔ (0 ≤ k ∧ k ≤ 5) ∧ ((k = 0 → 3 ≤ a ∧ a ≤ 14) ∧ (k = 1 → 1 ≤ a ∧ a ≤ 7) ∧ (k = 2 → 1 ≤ a ∧ a ≤ 14) ∧ (k = 3 → 0 ≤ a ∧ a ≤ 100) ∧ (k = 4 → (0 ≤ a ∧ a ≤ 14) ∧ 0 ≤ b ∧ b ≤ 14) ∧ (k = 5 → 1 ≤ a ∧ a ≤ 14)) ∧ (k ≠ 4 → b = 0) := Iff.rfl

set_option maxHeartbeats 4000000 in
theorem pzClue_any (k a b : Int) (t : Bool) (w : World) (ht : decide (clueP (k, a, b)) = t) :
    Calls Tryd.prog 53 #[.agg #[.int .i64 k, .int .i64 a, .int .i64 b]] w fun e w' => e = .returned (.bool t) ∧ Below w.heap.size w w' := by
  by_cases hk : k = 0 ∨ k = 1 ∨ k = 2 ∨ k = 3 ∨ k = 4 ∨ k = 5
  · rcases hk with rfl | rfl | rfl | rfl | rfl | rfl
    · by_cases ha : 3 ≤ a ∧ a ≤ 14
      · by_cases hb : b = 0
        · subst hb
          obtain rfl : t = true := by rw [← ht]; refine decide_eq_true ((clueP_iff _ _ _).2 ⟨by omega, ⟨fun h => ?_, fun h => ?_, fun h => ?_, fun h => ?_, fun h => ?_, fun h => ?_⟩, fun h => ?_⟩) <;> omega
          clear ht
          go_enter Tryd.func53, Tryd.ntmps53
          go_wp2_with (first | (go_at_call 78; (with_reducible refine (l1In_yes a 3 14 _ ha).mono ?_); rintro e w1 ⟨rfl, rfl⟩))
          go_ret
          exact ⟨rfl, by go_grown⟩
        · have hb' : (b == 0) = false := beq_eq_false_iff_ne.2 hb
          obtain rfl : t = false := by rw [← ht]; refine decide_eq_false ?_; rintro ⟨_, ⟨h0, h1, h2, h3, h4, h5⟩, hb1⟩; have g := h0 rfl; have g2 := hb1 (show _ ≠ (4 : Int) by omega); simp only at g g2; omega
          clear ht
          go_enter Tryd.func53, Tryd.ntmps53
          go_wp2_with (first | (go_at_call 78; (with_reducible refine (l1In_yes a 3 14 _ ha).mono ?_); rintro e w1 ⟨rfl, rfl⟩))
          go_ret
          exact ⟨rfl, by go_grown⟩
      · skip
        obtain rfl : t = false := by rw [← ht]; refine decide_eq_false ?_; rintro ⟨_, ⟨h0, h1, h2, h3, h4, h5⟩, hb1⟩; have g := h0 rfl; have g2 := hb1 (show _ ≠ (4 : Int) by omega); simp only at g g2; omega
        clear ht
        go_enter Tryd.func53, Tryd.ntmps53
        go_wp2_with (first | (go_at_call 78; (with_reducible refine (l1In_no a 3 14 _ ha).mono ?_); rintro e w1 ⟨rfl, rfl⟩))
        go_ret
        exact ⟨rfl, by go_grown⟩
    · by_cases ha : 1 ≤ a ∧ a ≤ 7
      · by_cases hb : b = 0
        · subst hb
          obtain rfl : t = true := by rw [← ht]; refine decide_eq_true ((clueP_iff _ _ _).2 ⟨by omega, ⟨fun h => ?_, fun h => ?_, fun h => ?_, fun h => ?_, fun h => ?_, fun h => ?_⟩, fun h => ?_⟩) <;> omega
          clear ht
          go_enter Tryd.func53, Tryd.ntmps53
          go_wp2_with (first | (go_at_call 78; (with_reducible refine (l1In_yes a 1 7 _ ha).mono ?_); rintro e w1 ⟨rfl, rfl⟩))
          go_ret
          exact ⟨rfl, by go_grown⟩
        · have hb' : (b == 0) = false := beq_eq_false_iff_ne.2 hb
          obtain rfl : t = false := by rw [← ht]; refine decide_eq_false ?_; rintro ⟨_, ⟨h0, h1, h2, h3, h4, h5⟩, hb1⟩; have g := h1 rfl; have g2 := hb1 (show _ ≠ (4 : Int) by omega); simp only at g g2; omega
          clear ht
          go_enter Tryd.func53, Tryd.ntmps53
          go_wp2_with (first | (go_at_call 78; (with_reducible refine (l1In_yes a 1 7 _ ha).mono ?_); rintro e w1 ⟨rfl, rfl⟩))
          go_ret
          exact ⟨rfl, by go_grown⟩
      · skip
        obtain rfl : t = false := by rw [← ht]; refine decide_eq_false ?_; rintro ⟨_, ⟨h0, h1, h2, h3, h4, h5⟩, hb1⟩; have g := h1 rfl; have g2 := hb1 (show _ ≠ (4 : Int) by omega); simp only at g g2; omega
        clear ht
        go_enter Tryd.func53, Tryd.ntmps53
        go_wp2_with (first | (go_at_call 78; (with_reducible refine (l1In_no a 1 7 _ ha).mono ?_); rintro e w1 ⟨rfl, rfl⟩))
        go_ret
        exact ⟨rfl, by go_grown⟩
    · by_cases ha : 1 ≤ a ∧ a ≤ 14
      · by_cases hb : b = 0
        · subst hb
          obtain rfl : t = true := by rw [← ht]; refine decide_eq_true ((clueP_iff _ _ _).2 ⟨by omega, ⟨fun h => ?_, fun h => ?_, fun h => ?_, fun h => ?_, fun h => ?_, fun h => ?_⟩, fun h => ?_⟩) <;> omega
          clear ht
          go_enter Tryd.func53, Tryd.ntmps53
          go_wp2_with (first | (go_at_call 78; (with_reducible refine (l1In_yes a 1 14 _ ha).mono ?_); rintro e w1 ⟨rfl, rfl⟩))
          go_ret
          exact ⟨rfl, by go_grown⟩
        · have hb' : (b == 0) = false := beq_eq_false_iff_ne.2 hb
          obtain rfl : t = false := by rw [← ht]; refine decide_eq_false ?_; rintro ⟨_, ⟨h0, h1, h2, h3, h4, h5⟩, hb1⟩; have g := h2 rfl; have g2 := hb1 (show _ ≠ (4 : Int) by omega); simp only at g g2; omega
          clear ht
          go_enter Tryd.func53, Tryd.ntmps53
          go_wp2_with (first | (go_at_call 78; (with_reducible refine (l1In_yes a 1 14 _ ha).mono ?_); rintro e w1 ⟨rfl, rfl⟩))
          go_ret
          exact ⟨rfl, by go_grown⟩
      · skip
        obtain rfl : t = false := by rw [← ht]; refine decide_eq_false ?_; rintro ⟨_, ⟨h0, h1, h2, h3, h4, h5⟩, hb1⟩; have g := h2 rfl; have g2 := hb1 (show _ ≠ (4 : Int) by omega); simp only at g g2; omega
        clear ht
        go_enter Tryd.func53, Tryd.ntmps53
        go_wp2_with (first | (go_at_call 78; (with_reducible refine (l1In_no a 1 14 _ ha).mono ?_); rintro e w1 ⟨rfl, rfl⟩))
        go_ret
        exact ⟨rfl, by go_grown⟩
    · by_cases ha : 0 ≤ a ∧ a ≤ 100
      · by_cases hb : b = 0
        · subst hb
          obtain rfl : t = true := by rw [← ht]; refine decide_eq_true ((clueP_iff _ _ _).2 ⟨by omega, ⟨fun h => ?_, fun h => ?_, fun h => ?_, fun h => ?_, fun h => ?_, fun h => ?_⟩, fun h => ?_⟩) <;> omega
          clear ht
          go_enter Tryd.func53, Tryd.ntmps53
          go_wp2_with (first | (go_at_call 78; (with_reducible refine (l1In_yes a 0 100 _ ha).mono ?_); rintro e w1 ⟨rfl, rfl⟩))
          go_ret
          exact ⟨rfl, by go_grown⟩
        · have hb' : (b == 0) = false := beq_eq_false_iff_ne.2 hb
          obtain rfl : t = false := by rw [← ht]; refine decide_eq_false ?_; rintro ⟨_, ⟨h0, h1, h2, h3, h4, h5⟩, hb1⟩; have g := h3 rfl; have g2 := hb1 (show _ ≠ (4 : Int) by omega); simp only at g g2; omega
          clear ht
          go_enter Tryd.func53, Tryd.ntmps53
          go_wp2_with (first | (go_at_call 78; (with_reducible refine (l1In_yes a 0 100 _ ha).mono ?_); rintro e w1 ⟨rfl, rfl⟩))
          go_ret
          exact ⟨rfl, by go_grown⟩
      · skip
        obtain rfl : t = false := by rw [← ht]; refine decide_eq_false ?_; rintro ⟨_, ⟨h0, h1, h2, h3, h4, h5⟩, hb1⟩; have g := h3 rfl; have g2 := hb1 (show _ ≠ (4 : Int) by omega); simp only at g g2; omega
        clear ht
        go_enter Tryd.func53, Tryd.ntmps53
        go_wp2_with (first | (go_at_call 78; (with_reducible refine (l1In_no a 0 100 _ ha).mono ?_); rintro e w1 ⟨rfl, rfl⟩))
        go_ret
        exact ⟨rfl, by go_grown⟩
    · by_cases ha : 0 ≤ a ∧ a ≤ 14
      · by_cases hb : 0 ≤ b ∧ b ≤ 14
        · skip
          obtain rfl : t = true := by rw [← ht]; refine decide_eq_true ((clueP_iff _ _ _).2 ⟨by omega, ⟨fun h => ?_, fun h => ?_, fun h => ?_, fun h => ?_, fun h => ?_, fun h => ?_⟩, fun h => ?_⟩) <;> omega
          clear ht
          go_enter Tryd.func53, Tryd.ntmps53
          go_wp2_with (first | (go_at_call 78; (with_reducible refine (l1In_yes a 0 14 _ ha).mono ?_); rintro e w1 ⟨rfl, rfl⟩) | (go_at_call 78; (with_reducible refine (l1In_yes b 0 14 _ hb).mono ?_); rintro e w2 ⟨rfl, rfl⟩))
          go_ret
          exact ⟨rfl, by go_grown⟩
        · skip
          obtain rfl : t = false := by rw [← ht]; refine decide_eq_false ?_; rintro ⟨_, ⟨h0, h1, h2, h3, h4, h5⟩, hb1⟩; have g := h4 rfl; simp only at g; omega
          clear ht
          go_enter Tryd.func53, Tryd.ntmps53
          go_wp2_with (first | (go_at_call 78; (with_reducible refine (l1In_yes a 0 14 _ ha).mono ?_); rintro e w1 ⟨rfl, rfl⟩) | (go_at_call 78; (with_reducible refine (l1In_no b 0 14 _ hb).mono ?_); rintro e w2 ⟨rfl, rfl⟩))
          go_ret
          exact ⟨rfl, by go_grown⟩
      · skip
        obtain rfl : t = false := by rw [← ht]; refine decide_eq_false ?_; rintro ⟨_, ⟨h0, h1, h2, h3, h4, h5⟩, hb1⟩; have g := h4 rfl; simp only at g; omega
        clear ht
        go_enter Tryd.func53, Tryd.ntmps53
        go_wp2_with (first | (go_at_call 78; (with_reducible refine (l1In_no a 0 14 _ ha).mono ?_); rintro e w1 ⟨rfl, rfl⟩))
        go_ret
        exact ⟨rfl, by go_grown⟩
    · by_cases ha : 1 ≤ a ∧ a ≤ 14
      · by_cases hb : b = 0
        · subst hb
          obtain rfl : t = true := by rw [← ht]; refine decide_eq_true ((clueP_iff _ _ _).2 ⟨by omega, ⟨fun h => ?_, fun h => ?_, fun h => ?_, fun h => ?_, fun h => ?_, fun h => ?_⟩, fun h => ?_⟩) <;> omega
          clear ht
          go_enter Tryd.func53, Tryd.ntmps53
          go_wp2_with (first | (go_at_call 78; (with_reducible refine (l1In_yes a 1 14 _ ha).mono ?_); rintro e w1 ⟨rfl, rfl⟩))
          go_ret
          exact ⟨rfl, by go_grown⟩
        · have hb' : (b == 0) = false := beq_eq_false_iff_ne.2 hb
          obtain rfl : t = false := by rw [← ht]; refine decide_eq_false ?_; rintro ⟨_, ⟨h0, h1, h2, h3, h4, h5⟩, hb1⟩; have g := h5 rfl; have g2 := hb1 (show _ ≠ (4 : Int) by omega); simp only at g g2; omega
          clear ht
          go_enter Tryd.func53, Tryd.ntmps53
          go_wp2_with (first | (go_at_call 78; (with_reducible refine (l1In_yes a 1 14 _ ha).mono ?_); rintro e w1 ⟨rfl, rfl⟩))
          go_ret
          exact ⟨rfl, by go_grown⟩
      · skip
        obtain rfl : t = false := by rw [← ht]; refine decide_eq_false ?_; rintro ⟨_, ⟨h0, h1, h2, h3, h4, h5⟩, hb1⟩; have g := h5 rfl; have g2 := hb1 (show _ ≠ (4 : Int) by omega); simp only at g g2; omega
        clear ht
        go_enter Tryd.func53, Tryd.ntmps53
        go_wp2_with (first | (go_at_call 78; (with_reducible refine (l1In_no a 1 14 _ ha).mono ?_); rintro e w1 ⟨rfl, rfl⟩))
        go_ret
        exact ⟨rfl, by go_grown⟩
  · have e0 : (k == 0) = false := beq_eq_false_iff_ne.2 (by omega)
    have e1 : (k == 1) = false := beq_eq_false_iff_ne.2 (by omega)
    have e2 : (k == 2) = false := beq_eq_false_iff_ne.2 (by omega)
    have e3 : (k == 3) = false := beq_eq_false_iff_ne.2 (by omega)
    have e4 : (k == 4) = false := beq_eq_false_iff_ne.2 (by omega)
    have e5 : (k == 5) = false := beq_eq_false_iff_ne.2 (by omega)
    obtain rfl : t = false := by rw [← ht]; refine decide_eq_false ?_; rintro ⟨g, _⟩; simp only at g; omega
    clear ht hk
    go_enter Tryd.func53, Tryd.ntmps53
    go_wp2
    go_ret
    exact ⟨rfl, by go_grown⟩

theorem one_src (W : World) (e : TypeId) (k a b : Int) : SrcT (W.alloc (.cells #[.int .i64 k, .int .i64 a, .int .i64 b] e)) (.slice (some ⟨W.heap.size, 0, none⟩) 1 1) [(k, a, b)] := by
  refine .inr ⟨W.heap.size, 0, 1, rfl, Nat.le_refl _, by unfold maxLen; omega, fun i hi => ?_⟩
  obtain rfl : i = 0 := by simpa using hi
  exact ⟨cell_of_row _ W.heap.size 0 #[.int .i64 k, .int .i64 a, .int .i64 b] e _ (heap_alloc_new W _), cell_of_row _ W.heap.size 1 #[.int .i64 k, .int .i64 a, .int .i64 b] e _ (heap_alloc_new W _), cell_of_row _ W.heap.size 2 #[.int .i64 k, .int .i64 a, .int .i64 b] e _ (heap_alloc_new W _)⟩

set_option maxHeartbeats 400000 in
theorem iIsClue_any (k a b : Int) (t : Bool) (w : World) (ht : decide (clueP (k, a, b)) = t) (hW : ClueW w) :
    Calls Tryd.prog 17 #[.agg #[.int .i64 k, .int .i64 a, .int .i64 b]] w fun e w' => e = .returned (.bool t) ∧ Below w.heap.size w w' := by
  have HT := Lib.hid ht
  have HW := Lib.hid hW
  clear ht hW
  have hB : ∀ s : Bool, s = !t → (s = true ↔ ∃ j, j < ([(k, a, b)] : List Tri).length ∧ ¬ clueP (([(k, a, b)] : List Tri).getD j noT)) := by
    intro s hs
    subst hs
    rw [← HT.out]
    simp
  have hS := one_src (w.alloc (.cells #[.int .i64 k, .int .i64 a, .int .i64 b] 25)) 25 k a b
  rw [World.size_alloc] at hS
  have HS := Lib.hid hS
  clear hS
  cases t with
  | true =>
    go_enter Tryd.func17, Tryd.ntmps17
    go_wp2_with (first | (go_at_call 54; (refine (refused_any _ [(k, a, b)] false _ HS.out (by simp) (HW.out.later (by go_grown)) (hB _ rfl)).mono ?_); rintro e w1 ⟨rfl, hb1⟩))
    go_ret
    exact ⟨rfl, Below.trans (by go_grown) (hb1.mono (by first | (simp; done) | (simp; omega)))⟩
  | false =>
    go_enter Tryd.func17, Tryd.ntmps17
    go_wp2_with (first | (go_at_call 54; (refine (refused_any _ [(k, a, b)] true _ HS.out (by simp) (HW.out.later (by go_grown)) (hB _ rfl)).mono ?_); rintro e w1 ⟨rfl, hb1⟩))
    go_ret
    exact ⟨rfl, Below.trans (by go_grown) (hb1.mono (by first | (simp; done) | (simp; omega)))⟩

set_option maxHeartbeats 400000 in
theorem sIsClue_any (k a b : Int) (t : Bool) (w : World) (ht : decide (clueP (k, a, b)) = t) :
    Calls Tryd.prog 15 #[.agg #[.int .i64 k, .int .i64 a, .int .i64 b]] w fun e w' => e = .returned (.bool t) ∧ Below w.heap.size w w' := by
  go_enter Tryd.func15, Tryd.ntmps15
  go_wp2_with (first | (go_at_call 53; (with_reducible refine (pzClue_any k a b t _ ht).mono ?_); rintro e w1 ⟨rfl, hb1⟩))
  go_ret
  exact ⟨rfl, Below.trans (by go_grown) (hb1.mono (by first | (simp; done) | (simp; omega)))⟩

set_option maxHeartbeats 400000 in
theorem walk_IsClue (k a b : Int) (w : World) (hW : ClueW w) :
    Calls Tryd.prog 3 #[.agg #[.int .i64 k, .int .i64 a, .int .i64 b]] w fun e w' => e = .returned (.bool true) ∧ Below w.heap.size w w' := by
  obtain ⟨t, ht⟩ : ∃ t, decide (clueP (k, a, b)) = t := ⟨_, rfl⟩
  have HT := Lib.hid ht
  have HW := Lib.hid hW
  clear ht hW
  go_enter Tryd.func3, Tryd.ntmps3
  go_wp2_with fail
  refine (toClue_any _ _ _ _).mono ?_
  rintro e w1 ⟨rfl, hb1⟩
  have B1 : Below w.heap.size w w1 := Below.trans (by go_grown) (hb1.mono (by first | (simp; done) | (simp; omega)))
  have c0 : w1.cell? ⟨w.heap.size, 0, none⟩ = some (.int .i64 k) := cellB hb1 (by go_simp)
  have c1 : w1.cell? ⟨w.heap.size, 1, none⟩ = some (.int .i64 a) := cellB hb1 (by go_simp)
  have c2 : w1.cell? ⟨w.heap.size, 2, none⟩ = some (.int .i64 b) := cellB hb1 (by go_simp)
  go_wp2_with fail
  refine (sIsClue_any _ _ _ t _ HT.out).mono ?_
  rintro e w2 ⟨rfl, hb2⟩
  have B2 := B1.trans (hb2.mono B1.size)
  have d0 := cellB hb2 c0
  have d1 := cellB hb2 c1
  have d2 := cellB hb2 c2
  clear c0 c1 c2
  go_wp2_with fail
  refine (toClue_any _ _ _ _).mono ?_
  rintro e w3 ⟨rfl, hb3⟩
  have B3 := B2.trans (hb3.mono B2.size)
  go_wp2_with fail
  refine (iIsClue_any _ _ _ t _ HT.out (HW.out.later B3)).mono ?_
  rintro e w4 ⟨rfl, hb4⟩
  have B4 := B3.trans (hb4.mono B3.size)
  go_wp2_with fail
  go_ret
  exact ⟨rfl, B4⟩

/-! puzzles -/
theorem puzzle_some {xs : List Tri} : (∃ k, k < xs.length ∧ ¬ clueP (xs.getD k noT)) ↔ ¬ ∀ k, k < xs.length → clueP (xs.getD k noT) := by
  constructor
  · rintro ⟨k, hk, h⟩ g
    exact h (g k hk)
  · intro h
    apply Classical.byContradiction
    intro g
    exact h fun k hk => Classical.byContradiction fun e => g ⟨k, hk, e⟩

instance (xs : List Tri) : Decidable (puzzleP xs) := by unfold puzzleP; infer_instance

set_option maxHeartbeats 400000 in
theorem iIsPuzzle_any (v : Value) (xs : List Tri) (t : Bool) (w : World) (h : SrcT w v xs) (ht : decide (puzzleP xs) = t) (hW : ClueW w) :
    Calls Tryd.prog 21 #[.agg #[v]] w fun e w' => e = .returned (.bool t) ∧ Below w.heap.size w w' := by
  have HS := Lib.hid h
  have HT := Lib.hid ht
  have HW := Lib.hid hW
  obtain ⟨a0, cap, g, off, rfl, _, hc1, hc2, _⟩ := h.form
  unfold maxLen at hc2
  clear h ht hW
  by_cases hl : xs.length ≤ 6
  · obtain ⟨s, hs⟩ : ∃ s, decide (∀ k, k < xs.length → clueP (xs.getD k noT)) = s := ⟨_, rfl⟩
    have hst : s = t := by
      rw [← hs, ← HT.out]
      unfold puzzleP
      simp [hl]
    subst hst
    have hB : (!s) = true ↔ ∃ k, k < xs.length ∧ ¬ clueP (xs.getD k noT) := by
      rw [puzzle_some, ← hs]
      simp
    have HB := Lib.hid hB
    clear hs HT hB
    cases s
    · go_enter Tryd.func21, Tryd.ntmps21
      go_wp2_with (first | (go_at_call 54; (refine (refused_any _ xs true _ (HS.out.later (by go_grown)) (by omega) (HW.out.later (by go_grown)) (by simpa using HB.out)).mono ?_); rintro e w1 ⟨rfl, hb1⟩))
      go_ret
      exact ⟨rfl, Below.trans (by go_grown) (hb1.mono (by first | (simp; done) | (simp; omega)))⟩
    · go_enter Tryd.func21, Tryd.ntmps21
      go_wp2_with (first | (go_at_call 54; (refine (refused_any _ xs false _ (HS.out.later (by go_grown)) (by omega) (HW.out.later (by go_grown)) (by simpa using HB.out)).mono ?_); rintro e w1 ⟨rfl, hb1⟩))
      go_ret
      exact ⟨rfl, Below.trans (by go_grown) (hb1.mono (by first | (simp; done) | (simp; omega)))⟩
  · obtain rfl : t = false := by rw [← HT.out]; exact decide_eq_false (fun g => hl g.1)
    have h6 : ¬ (xs.length : Int) ≤ 6 := by omega
    clear HT
    go_enter Tryd.func21, Tryd.ntmps21
    go_wp2
    go_ret
    exact ⟨rfl, by go_grown⟩

set_option maxHeartbeats 1000000 in
theorem pzGood_any (v : Value) (xs : List Tri) (t : Bool) (w : World) (h : SrcT w v xs) (ht : decide (puzzleP xs) = t) :
    Calls Tryd.prog 56 #[.agg #[v]] w fun e w' => e = .returned (.bool t) ∧ Below w.heap.size w w' := by
  have HT := Lib.hid ht
  obtain ⟨a0, cap, g, off, rfl, ha, hc1, hc2, hc⟩ := h.form
  unfold maxLen at hc2
  have HC := Lib.hid hc
  have HA := Lib.hid ha
  clear h ht hc ha
  by_cases hl : xs.length ≤ 6
  · have h6 : ¬ (6 : Int) < (xs.length : Int) := by omega
    go_enter Tryd.func56, Tryd.ntmps56
    go_wp2
    go_loopw [12] (fun i wr => ∃ k : Nat, k ≤ xs.length ∧ i = .int .i64 k ∧ Hid (∀ j, j < k → clueP (xs.getD j noT)) ∧ Below w.heap.size w wr) (fun i _ => xs.length - (intOf i).toNat)
    case atStart => exact ⟨0, by omega, rfl, Lib.hid (fun j hj => absurd hj (by omega)), by go_grown⟩
    case round =>
      obtain ⟨k, hk, rfl, HO, hB⟩ := hrel
      have hz := hB.size
      by_cases hlt : k < xs.length
      · obtain rfl := HA.out (by omega)
        obtain ⟨hx, hy, hzc⟩ := HC.out k hlt
        have cx := cellB hB hx
        have cy := cellB hB hy
        have cz := cellB hB hzc
        obtain ⟨x, y, z, hxy⟩ : ∃ x y z, xs.getD k noT = (x, y, z) := ⟨_, _, _, rfl⟩
        rw [hxy] at cx cy cz
        simp only at cx cy cz
        have HXY := Lib.hid hxy
        have i1 : 0 ≤ (k : Int) := by omega
        have i2 : (k : Int) < (xs.length : Int) := by omega
        clear hx hy hzc hxy
        by_cases hok : clueP (x, y, z)
        · go_wp2_with (first | (go_at_call 53; (with_reducible refine (pzClue_any x y z true _ (decide_eq_true hok)).mono ?_); rintro e w1 ⟨rfl, hb1⟩; (have hb2 : Below wr.heap.size wr w1 := Below.trans (by go_grown) (hb1.mono (by simp)))))
          go_roundw
          case rel =>
            refine ⟨k + 1, by omega, by go_num, Lib.hid (fun j hj => ?_), hB.trans (hb2.mono hz)⟩
            rcases Nat.lt_or_eq_of_le (Nat.le_of_lt_succ hj) with h | rfl
            · exact HO.out j h
            · rw [HXY.out]; exact hok
          case measure => simp [intOf]; omega
        · obtain rfl : t = false := by rw [← HT.out]; exact decide_eq_false (fun g => hok (by rw [← HXY.out]; exact g.2 k hlt))
          go_wp2_with (first | (go_at_call 53; (with_reducible refine (pzClue_any x y z false _ (decide_eq_false hok)).mono ?_); rintro e w1 ⟨rfl, hb1⟩; (have hb2 : Below wr.heap.size wr w1 := Below.trans (by go_grown) (hb1.mono (by simp)))))
          go_ret
          exact ⟨rfl, hB.trans (hb2.mono hz)⟩
      · obtain rfl : k = xs.length := by omega
        obtain rfl : t = true := by rw [← HT.out]; exact decide_eq_true ⟨hl, HO.out⟩
        go_wp2
        go_ret
        exact ⟨rfl, hB⟩
  · obtain rfl : t = false := by rw [← HT.out]; exact decide_eq_false (fun g => hl g.1)
    have h6 : (6 : Int) < (xs.length : Int) := by omega
    clear HT
    go_enter Tryd.func56, Tryd.ntmps56
    go_wp2
    go_ret
    exact ⟨rfl, by go_grown⟩

set_option maxHeartbeats 400000 in
theorem sIsPuzzle_any (v : Value) (xs : List Tri) (t : Bool) (w : World) (h : SrcT w v xs) (ht : decide (puzzleP xs) = t) :
    Calls Tryd.prog 19 #[.agg #[v]] w fun e w' => e = .returned (.bool t) ∧ Below w.heap.size w w' := by
  have HS := Lib.hid h
  obtain ⟨a0, cap, g, off, rfl, _⟩ := h.form
  clear h
  go_enter Tryd.func19, Tryd.ntmps19
  go_wp2_with (first | (go_at_call 56; (refine (pzGood_any _ xs t _ (HS.out.later (by go_grown)) ht).mono ?_); rintro e w1 ⟨rfl, hb1⟩))
  go_ret
  exact ⟨rfl, Below.trans (by go_grown) (hb1.mono (by first | (simp; done) | (simp; omega)))⟩

set_option maxHeartbeats 2000000 in
theorem core_IsPuzzle (v : Value) (xs : List Tri) (t : Bool) (w : World) (hA : ArgT w v xs) (hW : ClueW w) (hn : xs.length ≤ 1048576)
    (hs : ∀ (W : World) (u : Value) (B T : Nat), ClueW W → TripsIn 25 W B T u xs → T ≤ W.heap.size → Calls Tryd.prog 19 #[.agg #[u]] W (fun e w' => e = .returned (.bool t) ∧ Below W.heap.size W w'))
    (hi : ∀ (W : World) (u : Value) (B T : Nat), ClueW W → TripsIn 25 W B T u xs → T ≤ W.heap.size → Calls Tryd.prog 21 #[.agg #[u]] W (fun e w' => e = .returned (.bool t) ∧ Below W.heap.size W w')) :
    Calls Tryd.prog 4 #[.agg #[v]] w fun e w' => e = .returned (.bool true) ∧ Below w.heap.size w w' := by
  have hA1 := hA
  obtain ⟨a0, cap, a, rfl, _⟩ := hA1
  have HS := Lib.hid hs
  have HI := Lib.hid hi
  have HA := Lib.hid hA
  have HW := Lib.hid hW
  clear hs hi hA hW
  go_enter Tryd.func4, Tryd.ntmps4
  go_wp2_with fail
  refine (szPuzzle_yes _ _ _ _ hn).mono ?_
  rintro e w1 ⟨rfl, hx1⟩
  have hb1 : Below w.heap.size w w1 := Below.trans (by go_grown) (hx1.mono (by first | omega | (simp; done) | (simp; omega)))
  have n1 : w.heap.size + 1 ≤ w1.heap.size := by have := hx1.size; (try simp at this); omega
  have B1 : Below w.heap.size w w1 := hb1
  have zp1 : w1.cell? ⟨w.heap.size, 0, none⟩ = some (.slice a0 xs.length cap) := cellB hx1 (by go_simp)
  go_wp2_with fail
  refine (toPuzzle_any _ _ _ (HA.out.later B1) hn).mono ?_
  rintro e w2 ⟨va, rfl, ka_2, hx2⟩
  have hb2 : Below w1.heap.size w1 w2 := Below.trans (by go_grown) (hx2.mono (by first | omega | (simp; done) | (simp; omega)))
  have n2 : w1.heap.size + 0 ≤ w2.heap.size := by have := hx2.size; (try simp at this); omega
  have B2 : Below w.heap.size w w2 := B1.trans (hb2.mono (by omega))
  have zp2 := cellB hb2 zp1
  clear zp1
  obtain ⟨aa, ma, ca, hva⟩ := own_formT ka_2.1
  subst hva
  go_wp2_with fail
  refine (HS.out _ _ _ _ (HW.out.later B2) ka_2 (by first | omega | (simp; done) | (simp; omega))).mono ?_
  rintro e w3 ⟨rfl, hx3⟩
  have hb3 : Below w2.heap.size w2 w3 := Below.trans (by go_grown) (hx3.mono (by first | omega | (simp; done) | (simp; omega)))
  have n3 : w2.heap.size + 0 ≤ w3.heap.size := by have := hx3.size; (try simp at this); omega
  have B3 : Below w.heap.size w w3 := B2.trans (hb3.mono (by omega))
  have zp3 := cellB hb3 zp2
  clear zp2
  have ka_3 := ka_2.keep (belowSame hb3 (by omega))
  go_wp2_with fail
  refine (toPuzzle_any _ _ _ (HA.out.later B3) hn).mono ?_
  rintro e w4 ⟨vc, rfl, kc_4, hx4⟩
  have hb4 : Below w3.heap.size w3 w4 := Below.trans (by go_grown) (hx4.mono (by first | omega | (simp; done) | (simp; omega)))
  have n4 : w3.heap.size + 0 ≤ w4.heap.size := by have := hx4.size; (try simp at this); omega
  have B4 : Below w.heap.size w w4 := B3.trans (hb4.mono (by omega))
  have zp4 := cellB hb4 zp3
  clear zp3
  have ka_4 := ka_3.keep (belowSame hb4 (by omega))
  obtain ⟨ac, mc, cc, hvc⟩ := own_formT kc_4.1
  subst hvc
  go_wp2_with fail
  refine (HI.out _ _ _ _ (HW.out.later (Below.trans B4 (by go_grown))) (kc_4.keep (belowSame (by go_grown) (by first | omega | (simp; done) | (simp; omega)))) (by first | omega | (simp; done) | (simp; omega))).mono ?_
  rintro e w5 ⟨rfl, hx5⟩
  have hb5 : Below w4.heap.size w4 w5 := Below.trans (by go_grown) (hx5.mono (by first | omega | (simp; done) | (simp; omega)))
  have n5 : w4.heap.size + 1 ≤ w5.heap.size := by have := hx5.size; (try simp at this); omega
  have B5 : Below w.heap.size w w5 := B4.trans (hb5.mono (by omega))
  have zp5 := cellB hb5 zp4
  clear zp4
  have zc5 : w5.cell? ⟨w4.heap.size, 0, none⟩ = some (.slice ac mc cc) := cellB hx5 (by go_simp)
  have ka_5 := ka_4.keep (belowSame hb5 (by omega))
  have kc_5 := kc_4.keep (belowSame hb5 (by omega))
  go_wp2
  go_region_held3 (fun w' => w'.cell? ⟨w.heap.size, 0, none⟩ = some (.slice a0 xs.length cap) ∧ w'.cell? ⟨w4.heap.size, 0, none⟩ = some (.slice ac mc cc)) (go_keep)
    (first | (go_at_call 20; refine (toPuzzle_any _ _ _ (HA.out.later (Below.trans B5 (by go_grown))) hn).mono ?_; rintro e w6 ⟨vd, rfl, kd_6, hx6⟩; (have kd_6 := kd_6.wider (B' := w5.heap.size + 0) (by first | exact Nat.le_refl _ | (simp; done) | (simp; omega)) (Nat.le_refl _)); (have hb6 : Below w5.heap.size w5 w6 := Below.trans (by go_grown) (hx6.mono (by first | omega | (simp; done) | (simp; omega)))); (have n6 : w5.heap.size + 0 ≤ w6.heap.size := by have := hx6.size; (try simp at this); omega); (have B6 : Below w.heap.size w w6 := B5.trans (hb6.mono (by omega))); (have zp6 := cellB hb6 zp5); (have zc6 := cellB hb6 zc5); (have ka_6 := ka_5.keep (belowSame hb6 (by omega))); (have kc_6 := kc_5.keep (belowSame hb6 (by omega))); (obtain ⟨ad, md, cd, hvd⟩ := own_formT kd_6.1); subst hvd) | (go_at_call 22; refine (eqPuzzle_in _ _ _ _ _ _ _ _ _ (kc_6.keep (belowSame (by go_grown) (by first | omega | (simp; done) | (simp; omega)))) (kd_6.keep (belowSame (by go_grown) (by first | omega | (simp; done) | (simp; omega)))) (by first | omega | (simp; done) | (simp; omega)) (by first | omega | (simp; done) | (simp; omega))).mono ?_; rintro e w7 ⟨rfl, hx7⟩; (have hb7 : Below w6.heap.size w6 w7 := Below.trans (by go_grown) (hx7.mono (by first | omega | (simp; done) | (simp; omega)))); (have n7 : w6.heap.size + 0 ≤ w7.heap.size := by have := hx7.size; (try simp at this); omega); (have B7 : Below w.heap.size w w7 := B6.trans (hb7.mono (by omega))); (have zp7 := cellB hb7 zp6); (have zc7 := cellB hb7 zc6); (have ka_7 := ka_6.keep (belowSame hb7 (by omega))); (have kc_7 := kc_6.keep (belowSame hb7 (by omega))); (have kd_7 := kd_6.keep (belowSame hb7 (by omega)))))
  go_wp2_with fail
  go_ret
  exact ⟨rfl, B7⟩

set_option maxHeartbeats 400000 in
theorem long_IsPuzzle (v : Value) (xs : List Tri) (w : World) (hA : ArgT w v xs) (hn : ¬ xs.length ≤ 1048576) :
    Calls Tryd.prog 4 #[.agg #[v]] w fun e w' => e = .returned (.bool true) ∧ Below w.heap.size w w' := by
  obtain ⟨a0, cap, a, rfl, _, hm, _⟩ := hA
  go_enter Tryd.func4, Tryd.ntmps4
  go_wp2_with fail
  refine (szPuzzle_no _ _ _ _ (by omega) hm).mono ?_
  rintro e w0 ⟨rfl, hb0⟩
  go_wp2_with fail
  go_ret
  exact ⟨rfl, Below.trans (by go_grown) (hb0.mono (by first | omega | (simp; done) | (simp; omega)))⟩

theorem walk_IsPuzzle (v : Value) (xs : List Tri) (w : World) (hA : ArgT w v xs) (hW : ClueW w) :
    Calls Tryd.prog 4 #[.agg #[v]] w fun e w' => e = .returned (.bool true) ∧ Below w.heap.size w w' := by
  by_cases hn : xs.length ≤ 1048576
  · exact core_IsPuzzle v xs _ w hA hW hn (fun W u B T _ h _ => sIsPuzzle_any u xs _ W h.1.src rfl) (fun W u B T hw h _ => iIsPuzzle_any u xs _ W h.1.src rfl hw)
  · exact long_IsPuzzle v xs w hA hn
end Go.Proofs.YtpliaenpencocaaDoor
