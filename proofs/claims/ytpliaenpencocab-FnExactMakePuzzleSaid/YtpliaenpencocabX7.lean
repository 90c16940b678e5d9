/- Which clues and puzzles there are, on both sides. -/
import Derived.Test.YtpliaenpencocabX6
import Derived.Deep.RegionHeld3
namespace Go.Proofs.Ytpliaenpencocab
open Go.RowKit
set_option linter.unusedVariables false

theorem clueP_iff (k a b : Int) : clueP (k, a, b) ↔ (0 ≤ k ∧ k ≤ 5) ∧ ((k = 0 → 3 ≤ a ∧ a ≤ 14) ∧ (k = 1 → 1 ≤ a ∧ a ≤ 7) ∧ (k = 2 → 1 ≤ a ∧ a ≤ 14) ∧ (k = 3 → 0 ≤ a ∧ a ≤ 100) ∧ (k = 4 → (0 ≤ a ∧ a ≤ 14) ∧ 0 ≤ b ∧ b ≤ 14) ∧ (k = 5 → 1 ≤ a ∧ a ≤ 14)) ∧ (k ≠ 4 → b = 0) := Iff.rfl

theorem one_src (W : World) (e : TypeId) (k a b : Int) : SrcT (W.alloc (.cells #[.int .i64 k, .int .i64 a, .int .i64 b] e)) (.slice (some ⟨W.heap.size, 0, none⟩) 1 1) [(k, a, b)] := by
  refine .inr ⟨W.heap.size, 0, 1, rfl, Nat.le_refl _, by unfold maxLen; omega, fun i hi => ?_⟩
  obtain rfl : i = 0 := by simpa using hi
  exact ⟨cell_of_row _ W.heap.size 0 #[.int .i64 k, .int .i64 a, .int .i64 b] e _ (heap_alloc_new W _), cell_of_row _ W.heap.size 1 #[.int .i64 k, .int .i64 a, .int .i64 b] e _ (heap_alloc_new W _), cell_of_row _ W.heap.size 2 #[.int .i64 k, .int .i64 a, .int .i64 b] e _ (heap_alloc_new W _)⟩

/-! puzzles -/
theorem puzzle_some {xs : List Tri} : (∃ k, k < xs.length ∧ ¬ clueP (xs.getD k noT)) ↔ ¬ ∀ k, k < xs.length → clueP (xs.getD k noT) := by
  constructor
  · rintro ⟨k, hk, h⟩ g
    exact h (g k hk)
  · intro h
    apply Classical.byContradiction
    intro g
    exact h fun k hk => Classical.byContradiction fun e => g ⟨k, hk, e⟩

instance (xs : List Tri) : Decidable (puzzleP xs) := by unfold puzzleP; infer_instance