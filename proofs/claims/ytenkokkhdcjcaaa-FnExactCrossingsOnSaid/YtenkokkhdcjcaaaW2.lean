/- Contracts of the functions of stars: numbers, and the laws over them. -/
import Derived.Test.YtenkokkhdcjcaaaW1
namespace Go.Proofs.Ytenkokkhdcjcaaa
open Go.RowKit

set_option maxHeartbeats 400000 in
theorem isPoint_yes (p k : Int) (w : World) (h : 0 ≤ k ∧ k < p) :
    Calls Try.prog 72 #[.int .i64 p, .int .i64 k] w fun e w' => e = .returned (.bool true) ∧ w = w' := by
  obtain ⟨h1, h2⟩ := h
  go_enter Try.func72, Try.ntmps72
  go_wp2
  go_ret
  exact ⟨rfl, rfl⟩

set_option maxHeartbeats 400000 in
theorem isPoint_no (p k : Int) (w : World) (h : ¬ (0 ≤ k ∧ k < p)) :
    Calls Try.prog 72 #[.int .i64 p, .int .i64 k] w fun e w' => e = .returned (.bool false) ∧ w = w' := by
  by_cases h1 : 0 ≤ k
  · have h2 : ¬ k < p := by omega
    clear h
    go_enter Try.func72, Try.ntmps72
    go_wp2
    go_ret
    exact ⟨rfl, rfl⟩
  · clear h
    go_enter Try.func72, Try.ntmps72
    go_wp2
    go_ret
    exact ⟨rfl, rfl⟩

set_option maxHeartbeats 400000 in
theorem srAsked_yes (p s k : Int) (w : World) (h : 3 ≤ p ∧ p ≤ 60 ∧ 1 ≤ s ∧ s < p) (hk : 0 ≤ k ∧ k < p) :
    Calls Try.prog 69 #[.agg #[.int .i64 p, .int .i64 s], .int .i64 k] w fun e w' => e = .returned (.bool true) ∧ Below w.heap.size w w' := by
  have hp : 3 ≤ p := h.1
  have hp' : p ≤ 60 := h.2.1
  go_enter Try.func69, Try.ntmps69
  go_wp2_with (first | (go_at_call 67; (with_reducible refine (srGood_yes _ _ _ h).mono ?_); rintro e w1 ⟨rfl, hb⟩; obtain ⟨hc, hf⟩ := bcell hb; (have hz : w.heap.size < w1.heap.size := by (have := hb.size; (try simp at this); omega)); (have hB : Below w.heap.size w w1 := by (refine Below.trans ?_ (hb.mono (by first | (simp; done) | omega | (simp; omega))); go_grown))) | (go_at_call 62; (with_reducible refine (l1In_yes _ _ _ _ (by omega)).mono ?_); rintro e w1 ⟨rfl, rfl⟩))
  go_ret
  exact ⟨rfl, hB⟩

set_option maxHeartbeats 400000 in
theorem srAsked_no (p s k : Int) (w : World) (h : ¬ ((3 ≤ p ∧ p ≤ 60 ∧ 1 ≤ s ∧ s < p) ∧ (0 ≤ k ∧ k < p))) :
    Calls Try.prog 69 #[.agg #[.int .i64 p, .int .i64 s], .int .i64 k] w fun e w' => e = .returned (.bool false) ∧ Below w.heap.size w w' := by
  by_cases h1 : 3 ≤ p ∧ p ≤ 60 ∧ 1 ≤ s ∧ s < p
  · have hk : ¬ (0 ≤ k ∧ k ≤ p - 1) := by omega
    have hp : 3 ≤ p := h1.1
    have hp' : p ≤ 60 := h1.2.1
    clear h
    go_enter Try.func69, Try.ntmps69
    go_wp2_with (first | (go_at_call 67; (with_reducible refine (srGood_yes _ _ _ h1).mono ?_); rintro e w1 ⟨rfl, hb⟩; obtain ⟨hc, hf⟩ := bcell hb; (have hz : w.heap.size < w1.heap.size := by (have := hb.size; (try simp at this); omega)); (have hB : Below w.heap.size w w1 := by (refine Below.trans ?_ (hb.mono (by first | (simp; done) | omega | (simp; omega))); go_grown))) | (go_at_call 62; (with_reducible refine (l1In_no _ _ _ _ hk).mono ?_); rintro e w1 ⟨rfl, rfl⟩))
    go_ret
    exact ⟨rfl, hB⟩
  · clear h
    go_enter Try.func69, Try.ntmps69
    go_wp2_with (first | (go_at_call 67; (with_reducible refine (srGood_no _ _ _ h1).mono ?_); rintro e w1 ⟨rfl, hb⟩; obtain ⟨hc, hf⟩ := bcell hb; (have hz : w.heap.size < w1.heap.size := by (have := hb.size; (try simp at this); omega)); (have hB : Below w.heap.size w w1 := by (refine Below.trans ?_ (hb.mono (by first | (simp; done) | omega | (simp; omega))); go_grown))))
    go_ret
    exact ⟨rfl, hB⟩

end Go.Proofs.Ytenkokkhdcjcaaa
