/- Which clues and puzzles there are, on both sides. -/
import Derived.Test.YtbgcbokddldmkaaDoorX6
import Derived.Deep.RegionHeld3
namespace Go.Proofs.YtbgcbokddldmkaaDoor
open Go.RowKit
set_option linter.unusedVariables false

theorem clueP_iff (k a b : Int) : clueP (k, a, b) ↔ (0 ≤ k ∧ k ≤ 5) ∧ ((k = 0 → 3 ≤ a ∧ a ≤ 14) ∧ (k = 1 → 1 ≤ a ∧ a ≤ 7) ∧ (k = 2 → 1 ≤ a ∧ a ≤ 14) ∧ (k = 3 → 0 ≤ a ∧ a ≤ 100) ∧ (k = 4 → (0 ≤ a ∧ a ≤ 14) ∧ 0 ≤ b ∧ b ≤ 14) ∧ (k = 5 → 1 ≤ a ∧ a ≤ 14)) ∧ (k ≠ 4 → b = 0) := Iff.rfl

set_option maxHeartbeats 4000000 in
theorem pzClue_any (k a b : Int) (t : Bool) (w : World) (ht : decide (clueP (k, a, b)) = t) :
    Calls Tryd.prog 65 #[.agg #[.int .i64 k, .int .i64 a, .int .i64 b]] w fun e w' => e = .returned (.bool t) ∧ Below w.heap.size w w' := by
  by_cases hk : k = 0 ∨ k = 1 ∨ k = 2 ∨ k = 3 ∨ k = 4 ∨ k = 5
  · rcases hk with rfl | rfl | rfl | rfl | rfl | rfl
    · by_cases ha : 3 ≤ a ∧ a ≤ 14
      · by_cases hb : b = 0
        · subst hb
          obtain rfl : t = true := by rw [← ht]; refine decide_eq_true ((clueP_iff _ _ _).2 ⟨by omega, ⟨fun h => ?_, fun h => ?_, fun h => ?_, fun h => ?_, fun h => ?_, fun h => ?_⟩, fun h => ?_⟩) <;> omega
          clear ht
          go_enter Tryd.func65, Tryd.ntmps65
          go_wp2_with (first | (go_at_call 61; (with_reducible refine (l1In_yes a 3 14 _ ha).mono ?_); rintro e w1 ⟨rfl, rfl⟩))
          go_ret
          exact ⟨rfl, by go_grown⟩
        · have hb' : (b == 0) = false := beq_eq_false_iff_ne.2 hb
          obtain rfl : t = false := by rw [← ht]; refine decide_eq_false ?_; rintro ⟨_, ⟨h0, h1, h2, h3, h4, h5⟩, hb1⟩; have g := h0 rfl; have g2 := hb1 (show _ ≠ (4 : Int) by omega); simp only at g g2; omega
          clear ht
          go_enter Tryd.func65, Tryd.ntmps65
          go_wp2_with (first | (go_at_call 61; (with_reducible refine (l1In_yes a 3 14 _ ha).mono ?_); rintro e w1 ⟨rfl, rfl⟩))
          go_ret
          exact ⟨rfl, by go_grown⟩
      · skip
        obtain rfl : t = false := by rw [← ht]; refine decide_eq_false ?_; rintro ⟨_, ⟨h0, h1, h2, h3, h4, h5⟩, hb1⟩; have g := h0 rfl; have g2 := hb1 (show _ ≠ (4 : Int) by omega); simp only at g g2; omega
        clear ht
        go_enter Tryd.func65, Tryd.ntmps65
        go_wp2_with (first | (go_at_call 61; (with_reducible refine (l1In_no a 3 14 _ ha).mono ?_); rintro e w1 ⟨rfl, rfl⟩))
        go_ret
        exact ⟨rfl, by go_grown⟩
    · by_cases ha : 1 ≤ a ∧ a ≤ 7
      · by_cases hb : b = 0
        · subst hb
          obtain rfl : t = true := by rw [← ht]; refine decide_eq_true ((clueP_iff _ _ _).2 ⟨by omega, ⟨fun h => ?_, fun h => ?_, fun h => ?_, fun h => ?_, fun h => ?_, fun h => ?_⟩, fun h => ?_⟩) <;> omega
          clear ht
          go_enter Tryd.func65, Tryd.ntmps65
          go_wp2_with (first | (go_at_call 61; (with_reducible refine (l1In_yes a 1 7 _ ha).mono ?_); rintro e w1 ⟨rfl, rfl⟩))
          go_ret
          exact ⟨rfl, by go_grown⟩
        · have hb' : (b == 0) = false := beq_eq_false_iff_ne.2 hb
          obtain rfl : t = false := by rw [← ht]; refine decide_eq_false ?_; rintro ⟨_, ⟨h0, h1, h2, h3, h4, h5⟩, hb1⟩; have g := h1 rfl; have g2 := hb1 (show _ ≠ (4 : Int) by omega); simp only at g g2; omega
          clear ht
          go_enter Tryd.func65, Tryd.ntmps65
          go_wp2_with (first | (go_at_call 61; (with_reducible refine (l1In_yes a 1 7 _ ha).mono ?_); rintro e w1 ⟨rfl, rfl⟩))
          go_ret
          exact ⟨rfl, by go_grown⟩
      · skip
        obtain rfl : t = false := by rw [← ht]; refine decide_eq_false ?_; rintro ⟨_, ⟨h0, h1, h2, h3, h4, h5⟩, hb1⟩; have g := h1 rfl; have g2 := hb1 (show _ ≠ (4 : Int) by omega); simp only at g g2; omega
        clear ht
        go_enter Tryd.func65, Tryd.ntmps65
        go_wp2_with (first | (go_at_call 61; (with_reducible refine (l1In_no a 1 7 _ ha).mono ?_); rintro e w1 ⟨rfl, rfl⟩))
        go_ret
        exact ⟨rfl, by go_grown⟩
    · by_cases ha : 1 ≤ a ∧ a ≤ 14
      · by_cases hb : b = 0
        · subst hb
          obtain rfl : t = true := by rw [← ht]; refine decide_eq_true ((clueP_iff _ _ _).2 ⟨by omega, ⟨fun h => ?_, fun h => ?_, fun h => ?_, fun h => ?_, fun h => ?_, fun h => ?_⟩, fun h => ?_⟩) <;> omega
          clear ht
          go_enter Tryd.func65, Tryd.ntmps65
          go_wp2_with (first | (go_at_call 61; (with_reducible refine (l1In_yes a 1 14 _ ha).mono ?_); rintro e w1 ⟨rfl, rfl⟩))
          go_ret
          exact ⟨rfl, by go_grown⟩
        · have hb' : (b == 0) = false := beq_eq_false_iff_ne.2 hb
          obtain rfl : t = false := by rw [← ht]; refine decide_eq_false ?_; rintro ⟨_, ⟨h0, h1, h2, h3, h4, h5⟩, hb1⟩; have g := h2 rfl; have g2 := hb1 (show _ ≠ (4 : Int) by omega); simp only at g g2; omega
          clear ht
          go_enter Tryd.func65, Tryd.ntmps65
          go_wp2_with (first | (go_at_call 61; (with_reducible refine (l1In_yes a 1 14 _ ha).mono ?_); rintro e w1 ⟨rfl, rfl⟩))
          go_ret
          exact ⟨rfl, by go_grown⟩
      · skip
        obtain rfl : t = false := by rw [← ht]; refine decide_eq_false ?_; rintro ⟨_, ⟨h0, h1, h2, h3, h4, h5⟩, hb1⟩; have g := h2 rfl; have g2 := hb1 (show _ ≠ (4 : Int) by omega); simp only at g g2; omega
        clear ht
        go_enter Tryd.func65, Tryd.ntmps65
        go_wp2_with (first | (go_at_call 61; (with_reducible refine (l1In_no a 1 14 _ ha).mono ?_); rintro e w1 ⟨rfl, rfl⟩))
        go_ret
        exact ⟨rfl, by go_grown⟩
    · by_cases ha : 0 ≤ a ∧ a ≤ 100
      · by_cases hb : b = 0
        · subst hb
          obtain rfl : t = true := by rw [← ht]; refine decide_eq_true ((clueP_iff _ _ _).2 ⟨by omega, ⟨fun h => ?_, fun h => ?_, fun h => ?_, fun h => ?_, fun h => ?_, fun h => ?_⟩, fun h => ?_⟩) <;> omega
          clear ht
          go_enter Tryd.func65, Tryd.ntmps65
          go_wp2_with (first | (go_at_call 61; (with_reducible refine (l1In_yes a 0 100 _ ha).mono ?_); rintro e w1 ⟨rfl, rfl⟩))
          go_ret
          exact ⟨rfl, by go_grown⟩
        · have hb' : (b == 0) = false := beq_eq_false_iff_ne.2 hb
          obtain rfl : t = false := by rw [← ht]; refine decide_eq_false ?_; rintro ⟨_, ⟨h0, h1, h2, h3, h4, h5⟩, hb1⟩; have g := h3 rfl; have g2 := hb1 (show _ ≠ (4 : Int) by omega); simp only at g g2; omega
          clear ht
          go_enter Tryd.func65, Tryd.ntmps65
          go_wp2_with (first | (go_at_call 61; (with_reducible refine (l1In_yes a 0 100 _ ha).mono ?_); rintro e w1 ⟨rfl, rfl⟩))
          go_ret
          exact ⟨rfl, by go_grown⟩
      · skip
        obtain rfl : t = false := by rw [← ht]; refine decide_eq_false ?_; rintro ⟨_, ⟨h0, h1, h2, h3, h4, h5⟩, hb1⟩; have g := h3 rfl; have g2 := hb1 (show _ ≠ (4 : Int) by omega); simp only at g g2; omega
        clear ht
        go_enter Tryd.func65, Tryd.ntmps65
        go_wp2_with (first | (go_at_call 61; (with_reducible refine (l1In_no a 0 100 _ ha).mono ?_); rintro e w1 ⟨rfl, rfl⟩))
        go_ret
        exact ⟨rfl, by go_grown⟩
    · by_cases ha : 0 ≤ a ∧ a ≤ 14
      · by_cases hb : 0 ≤ b ∧ b ≤ 14
        · skip
          obtain rfl : t = true := by rw [← ht]; refine decide_eq_true ((clueP_iff _ _ _).2 ⟨by omega, ⟨fun h => ?_, fun h => ?_, fun h => ?_, fun h => ?_, fun h => ?_, fun h => ?_⟩, fun h => ?_⟩) <;> omega
          clear ht
          go_enter Tryd.func65, Tryd.ntmps65
          go_wp2_with (first | (go_at_call 61; (with_reducible refine (l1In_yes a 0 14 _ ha).mono ?_); rintro e w1 ⟨rfl, rfl⟩) | (go_at_call 61; (with_reducible refine (l1In_yes b 0 14 _ hb).mono ?_); rintro e w2 ⟨rfl, rfl⟩))
          go_ret
          exact ⟨rfl, by go_grown⟩
        · skip
          obtain rfl : t = false := by rw [← ht]; refine decide_eq_false ?_; rintro ⟨_, ⟨h0, h1, h2, h3, h4, h5⟩, hb1⟩; have g := h4 rfl; simp only at g; omega
          clear ht
          go_enter Tryd.func65, Tryd.ntmps65
          go_wp2_with (first | (go_at_call 61; (with_reducible refine (l1In_yes a 0 14 _ ha).mono ?_); rintro e w1 ⟨rfl, rfl⟩) | (go_at_call 61; (with_reducible refine (l1In_no b 0 14 _ hb).mono ?_); rintro e w2 ⟨rfl, rfl⟩))
          go_ret
          exact ⟨rfl, by go_grown⟩
      · skip
        obtain rfl : t = false := by rw [← ht]; refine decide_eq_false ?_; rintro ⟨_, ⟨h0, h1, h2, h3, h4, h5⟩, hb1⟩; have g := h4 rfl; simp only at g; omega
        clear ht
        go_enter Tryd.func65, Tryd.ntmps65
        go_wp2_with (first | (go_at_call 61; (with_reducible refine (l1In_no a 0 14 _ ha).mono ?_); rintro e w1 ⟨rfl, rfl⟩))
        go_ret
        exact ⟨rfl, by go_grown⟩
    · by_cases ha : 1 ≤ a ∧ a ≤ 14
      · by_cases hb : b = 0
        · subst hb
          obtain rfl : t = true := by rw [← ht]; refine decide_eq_true ((clueP_iff _ _ _).2 ⟨by omega, ⟨fun h => ?_, fun h => ?_, fun h => ?_, fun h => ?_, fun h => ?_, fun h => ?_⟩, fun h => ?_⟩) <;> omega
          clear ht
          go_enter Tryd.func65, Tryd.ntmps65
          go_wp2_with (first | (go_at_call 61; (with_reducible refine (l1In_yes a 1 14 _ ha).mono ?_); rintro e w1 ⟨rfl, rfl⟩))
          go_ret
          exact ⟨rfl, by go_grown⟩
        · have hb' : (b == 0) = false := beq_eq_false_iff_ne.2 hb
          obtain rfl : t = false := by rw [← ht]; refine decide_eq_false ?_; rintro ⟨_, ⟨h0, h1, h2, h3, h4, h5⟩, hb1⟩; have g := h5 rfl; have g2 := hb1 (show _ ≠ (4 : Int) by omega); simp only at g g2; omega
          clear ht
          go_enter Tryd.func65, Tryd.ntmps65
          go_wp2_with (first | (go_at_call 61; (with_reducible refine (l1In_yes a 1 14 _ ha).mono ?_); rintro e w1 ⟨rfl, rfl⟩))
          go_ret
          exact ⟨rfl, by go_grown⟩
      · skip
        obtain rfl : t = false := by rw [← ht]; refine decide_eq_false ?_; rintro ⟨_, ⟨h0, h1, h2, h3, h4, h5⟩, hb1⟩; have g := h5 rfl; have g2 := hb1 (show _ ≠ (4 : Int) by omega); simp only at g g2; omega
        clear ht
        go_enter Tryd.func65, Tryd.ntmps65
        go_wp2_with (first | (go_at_call 61; (with_reducible refine (l1In_no a 1 14 _ ha).mono ?_); rintro e w1 ⟨rfl, rfl⟩))
        go_ret
        exact ⟨rfl, by go_grown⟩
  · have e0 : (k == 0) = false := beq_eq_false_iff_ne.2 (by omega)
    have e1 : (k == 1) = false := beq_eq_false_iff_ne.2 (by omega)
    have e2 : (k == 2) = false := beq_eq_false_iff_ne.2 (by omega)
    have e3 : (k == 3) = false := beq_eq_false_iff_ne.2 (by omega)
    have e4 : (k == 4) = false := beq_eq_false_iff_ne.2 (by omega)
    have e5 : (k == 5) = false := beq_eq_false_iff_ne.2 (by omega)
    obtain rfl : t = false := by rw [← ht]; refine decide_eq_false ?_; rintro ⟨g, _⟩; simp only at g; omega
    clear ht hk
    go_enter Tryd.func65, Tryd.ntmps65
    go_wp2
    go_ret
    exact ⟨rfl, by go_grown⟩

theorem one_src (W : World) (e : TypeId) (k a b : Int) : SrcT (W.alloc (.cells #[.int .i64 k, .int .i64 a, .int .i64 b] e)) (.slice (some ⟨W.heap.size, 0, none⟩) 1 1) [(k, a, b)] := by
  refine .inr ⟨W.heap.size, 0, 1, rfl, Nat.le_refl _, by unfold maxLen; omega, fun i hi => ?_⟩
  obtain rfl : i = 0 := by simpa using hi
  exact ⟨cell_of_row _ W.heap.size 0 #[.int .i64 k, .int .i64 a, .int .i64 b] e _ (heap_alloc_new W _), cell_of_row _ W.heap.size 1 #[.int .i64 k, .int .i64 a, .int .i64 b] e _ (heap_alloc_new W _), cell_of_row _ W.heap.size 2 #[.int .i64 k, .int .i64 a, .int .i64 b] e _ (heap_alloc_new W _)⟩

set_option maxHeartbeats 400000 in
theorem iIsClue_any (k a b : Int) (t : Bool) (w : World) (ht : decide (clueP (k, a, b)) = t) (hW : ClueW w) :
    Calls Tryd.prog 66 #[.agg #[.int .i64 k, .int .i64 a, .int .i64 b]] w fun e w' => e = .returned (.bool t) ∧ Below w.heap.size w w' := by
  have HT := Lib.hid ht
  have HW := Lib.hid hW
  clear ht hW
  have hB : ∀ s : Bool, s = !t → (s = true ↔ ∃ j, j < ([(k, a, b)] : List Tri).length ∧ ¬ clueP (([(k, a, b)] : List Tri).getD j noT)) := by
    intro s hs
    subst hs
    rw [← HT.out]
    simp
  have hS := one_src (w.alloc (.cells #[.int .i64 k, .int .i64 a, .int .i64 b] 44)) 44 k a b
  rw [World.size_alloc] at hS
  have HS := Lib.hid hS
  clear hS
  cases t with
  | true =>
    go_enter Tryd.func66, Tryd.ntmps66
    go_wp2_with (first | (go_at_call 102; (refine (refused_any _ [(k, a, b)] false _ HS.out (by simp) (HW.out.later (by go_grown)) (hB _ rfl)).mono ?_); rintro e w1 ⟨rfl, hb1⟩))
    go_ret
    exact ⟨rfl, Below.trans (by go_grown) (hb1.mono (by first | (simp; done) | (simp; omega)))⟩
  | false =>
    go_enter Tryd.func66, Tryd.ntmps66
    go_wp2_with (first | (go_at_call 102; (refine (refused_any _ [(k, a, b)] true _ HS.out (by simp) (HW.out.later (by go_grown)) (hB _ rfl)).mono ?_); rintro e w1 ⟨rfl, hb1⟩))
    go_ret
    exact ⟨rfl, Below.trans (by go_grown) (hb1.mono (by first | (simp; done) | (simp; omega)))⟩

/-! puzzles -/
theorem puzzle_some {xs : List Tri} : (∃ k, k < xs.length ∧ ¬ clueP (xs.getD k noT)) ↔ ¬ ∀ k, k < xs.length → clueP (xs.getD k noT) := by
  constructor
  · rintro ⟨k, hk, h⟩ g
    exact h (g k hk)
  · intro h
    apply Classical.byContradiction
    intro g
    exact h fun k hk => Classical.byContradiction fun e => g ⟨k, hk, e⟩

instance (xs : List Tri) : Decidable (puzzleP xs) := by unfold puzzleP; infer_instance

set_option maxHeartbeats 400000 in
theorem iIsPuzzle_any (v : Value) (xs : List Tri) (t : Bool) (w : World) (h : SrcT w v xs) (ht : decide (puzzleP xs) = t) (hW : ClueW w) :
    Calls Tryd.prog 62 #[.agg #[v]] w fun e w' => e = .returned (.bool t) ∧ Below w.heap.size w w' := by
  have HS := Lib.hid h
  have HT := Lib.hid ht
  have HW := Lib.hid hW
  obtain ⟨a0, cap, g, off, rfl, _, hc1, hc2, _⟩ := h.form
  unfold maxLen at hc2
  clear h ht hW
  by_cases hl : xs.length ≤ 6
  · obtain ⟨s, hs⟩ : ∃ s, decide (∀ k, k < xs.length → clueP (xs.getD k noT)) = s := ⟨_, rfl⟩
    have hst : s = t := by
      rw [← hs, ← HT.out]
      unfold puzzleP
      simp [hl]
    subst hst
    have hB : (!s) = true ↔ ∃ k, k < xs.length ∧ ¬ clueP (xs.getD k noT) := by
      rw [puzzle_some, ← hs]
      simp
    have HB := Lib.hid hB
    clear hs HT hB
    cases s
    · go_enter Tryd.func62, Tryd.ntmps62
      go_wp2_with (first | (go_at_call 102; (refine (refused_any _ xs true _ (HS.out.later (by go_grown)) (by omega) (HW.out.later (by go_grown)) (by simpa using HB.out)).mono ?_); rintro e w1 ⟨rfl, hb1⟩))
      go_ret
      exact ⟨rfl, Below.trans (by go_grown) (hb1.mono (by first | (simp; done) | (simp; omega)))⟩
    · go_enter Tryd.func62, Tryd.ntmps62
      go_wp2_with (first | (go_at_call 102; (refine (refused_any _ xs false _ (HS.out.later (by go_grown)) (by omega) (HW.out.later (by go_grown)) (by simpa using HB.out)).mono ?_); rintro e w1 ⟨rfl, hb1⟩))
      go_ret
      exact ⟨rfl, Below.trans (by go_grown) (hb1.mono (by first | (simp; done) | (simp; omega)))⟩
  · obtain rfl : t = false := by rw [← HT.out]; exact decide_eq_false (fun g => hl g.1)
    have h6 : ¬ (xs.length : Int) ≤ 6 := by omega
    clear HT
    go_enter Tryd.func62, Tryd.ntmps62
    go_wp2
    go_ret
    exact ⟨rfl, by go_grown⟩

set_option maxHeartbeats 1000000 in
theorem pzGood_any (v : Value) (xs : List Tri) (t : Bool) (w : World) (h : SrcT w v xs) (ht : decide (puzzleP xs) = t) :
    Calls Tryd.prog 53 #[.agg #[v]] w fun e w' => e = .returned (.bool t) ∧ Below w.heap.size w w' := by
  have HT := Lib.hid ht
  obtain ⟨a0, cap, g, off, rfl, ha, hc1, hc2, hc⟩ := h.form
  unfold maxLen at hc2
  have HC := Lib.hid hc
  have HA := Lib.hid ha
  clear h ht hc ha
  by_cases hl : xs.length ≤ 6
  · have h6 : ¬ (6 : Int) < (xs.length : Int) := by omega
    go_enter Tryd.func53, Tryd.ntmps53
    go_wp2
    go_loopw [12] (fun i wr => ∃ k : Nat, k ≤ xs.length ∧ i = .int .i64 k ∧ Hid (∀ j, j < k → clueP (xs.getD j noT)) ∧ Below w.heap.size w wr) (fun i _ => xs.length - (intOf i).toNat)
    case atStart => exact ⟨0, by omega, rfl, Lib.hid (fun j hj => absurd hj (by omega)), by go_grown⟩
    case round =>
      obtain ⟨k, hk, rfl, HO, hB⟩ := hrel
      have hz := hB.size
      by_cases hlt : k < xs.length
      · obtain rfl := HA.out (by omega)
        obtain ⟨hx, hy, hzc⟩ := HC.out k hlt
        have cx := cellB hB hx
        have cy := cellB hB hy
        have cz := cellB hB hzc
        obtain ⟨x, y, z, hxy⟩ : ∃ x y z, xs.getD k noT = (x, y, z) := ⟨_, _, _, rfl⟩
        rw [hxy] at cx cy cz
        simp only at cx cy cz
        have HXY := Lib.hid hxy
        have i1 : 0 ≤ (k : Int) := by omega
        have i2 : (k : Int) < (xs.length : Int) := by omega
        clear hx hy hzc hxy
        by_cases hok : clueP (x, y, z)
        · go_wp2_with (first | (go_at_call 65; (with_reducible refine (pzClue_any x y z true _ (decide_eq_true hok)).mono ?_); rintro e w1 ⟨rfl, hb1⟩; (have hb2 : Below wr.heap.size wr w1 := Below.trans (by go_grown) (hb1.mono (by simp)))))
          go_roundw
          case rel =>
            refine ⟨k + 1, by omega, by go_num, Lib.hid (fun j hj => ?_), hB.trans (hb2.mono hz)⟩
            rcases Nat.lt_or_eq_of_le (Nat.le_of_lt_succ hj) with h | rfl
            · exact HO.out j h
            · rw [HXY.out]; exact hok
          case measure => simp [intOf]; omega
        · obtain rfl : t = false := by rw [← HT.out]; exact decide_eq_false (fun g => hok (by rw [← HXY.out]; exact g.2 k hlt))
          go_wp2_with (first | (go_at_call 65; (with_reducible refine (pzClue_any x y z false _ (decide_eq_false hok)).mono ?_); rintro e w1 ⟨rfl, hb1⟩; (have hb2 : Below wr.heap.size wr w1 := Below.trans (by go_grown) (hb1.mono (by simp)))))
          go_ret
          exact ⟨rfl, hB.trans (hb2.mono hz)⟩
      · obtain rfl : k = xs.length := by omega
        obtain rfl : t = true := by rw [← HT.out]; exact decide_eq_true ⟨hl, HO.out⟩
        go_wp2
        go_ret
        exact ⟨rfl, hB⟩
  · obtain rfl : t = false := by rw [← HT.out]; exact decide_eq_false (fun g => hl g.1)
    have h6 : (6 : Int) < (xs.length : Int) := by omega
    clear HT
    go_enter Tryd.func53, Tryd.ntmps53
    go_wp2
    go_ret
    exact ⟨rfl, by go_grown⟩