/- Hidden stars; DoesFit, both sides, the law. -/
import Derived.Test.YtpliaenpencocabX9
namespace Go.Proofs.Ytpliaenpencocab
open Go.RowKit
set_option linter.unusedVariables false

def hidP (p s : Int) : Prop := 3 ≤ p ∧ p ≤ 14 ∧ 1 ≤ s ∧ s < p
instance (p s : Int) : Decidable (hidP p s) := by unfold hidP; infer_instance

set_option maxHeartbeats 1000000 in
theorem isHidden_any (p s : Int) (t : Bool) (w : World) (ht : decide (hidP p s) = t) :
    Calls Try.prog 34 #[.agg #[.int .i64 p, .int .i64 s]] w fun e w' => e = .returned (.bool t) ∧ Below w.heap.size w w' := by
  by_cases h : 3 ≤ p ∧ p ≤ 60 ∧ 1 ≤ s ∧ s < p
  · by_cases h14 : p ≤ 14
    · obtain rfl : t = true := by rw [← ht]; exact decide_eq_true ⟨h.1, h14, h.2.2⟩
      clear ht
      go_enter Try.func34, Try.ntmps34
      go_wp2_with (first | (go_at_call 60; (with_reducible refine (isStar_yes p s _ h).mono ?_); rintro e w1 ⟨rfl, hb1⟩; (have c0 : w1.cell? ⟨w.heap.size, 0, none⟩ = some (.int .i64 p) := cellB hb1 (by go_simp)); (have hB1 : Below w.heap.size w w1 := Below.trans (by go_grown) (hb1.mono (by first | omega | (simp; done) | (simp; omega))))))
      go_ret
      exact ⟨rfl, hB1⟩
    · obtain rfl : t = false := by rw [← ht]; exact decide_eq_false (fun g => h14 g.2.1)
      clear ht
      go_enter Try.func34, Try.ntmps34
      go_wp2_with (first | (go_at_call 60; (with_reducible refine (isStar_yes p s _ h).mono ?_); rintro e w1 ⟨rfl, hb1⟩; (have c0 : w1.cell? ⟨w.heap.size, 0, none⟩ = some (.int .i64 p) := cellB hb1 (by go_simp)); (have hB1 : Below w.heap.size w w1 := Below.trans (by go_grown) (hb1.mono (by first | omega | (simp; done) | (simp; omega))))))
      go_ret
      exact ⟨congrArg (fun b => Ending.returned (.bool b)) (decide_eq_false (by omega : ¬ p ≤ 14)), hB1⟩
  · obtain rfl : t = false := by rw [← ht]; exact decide_eq_false (fun g => h ⟨g.1, by have := g.2.1; omega, g.2.2⟩)
    clear ht
    have HH := Lib.hid h
    clear h
    go_enter Try.func34, Try.ntmps34
    go_wp2_with (first | (go_at_call 60; (with_reducible refine (isStar_no p s _ HH.out).mono ?_); rintro e w1 ⟨rfl, hb1⟩; (have c0 : w1.cell? ⟨w.heap.size, 0, none⟩ = some (.int .i64 p) := cellB hb1 (by go_simp)); (have hB1 : Below w.heap.size w w1 := Below.trans (by go_grown) (hb1.mono (by first | omega | (simp; done) | (simp; omega))))))
    go_ret
    exact ⟨rfl, hB1⟩

set_option maxHeartbeats 1000000 in
theorem pzHidden_any (p s : Int) (t : Bool) (w : World) (ht : decide (hidP p s) = t) :
    Calls Try.prog 30 #[.agg #[.int .i64 p, .int .i64 s]] w fun e w' => e = .returned (.bool t) ∧ Below w.heap.size w w' := by
  by_cases h : 3 ≤ p ∧ p ≤ 60 ∧ 1 ≤ s ∧ s < p
  · by_cases h14 : p ≤ 14
    · obtain rfl : t = true := by rw [← ht]; exact decide_eq_true ⟨h.1, h14, h.2.2⟩
      clear ht
      go_enter Try.func30, Try.ntmps30
      go_wp2_with (first | (go_at_call 58; (with_reducible refine (srGood_yes p s _ h).mono ?_); rintro e w1 ⟨rfl, hb1⟩; (have c0 : w1.cell? ⟨w.heap.size, 0, none⟩ = some (.int .i64 p) := cellB hb1 (by go_simp)); (have hB1 : Below w.heap.size w w1 := Below.trans (by go_grown) (hb1.mono (by first | omega | (simp; done) | (simp; omega))))))
      go_ret
      exact ⟨rfl, hB1⟩
    · obtain rfl : t = false := by rw [← ht]; exact decide_eq_false (fun g => h14 g.2.1)
      clear ht
      go_enter Try.func30, Try.ntmps30
      go_wp2_with (first | (go_at_call 58; (with_reducible refine (srGood_yes p s _ h).mono ?_); rintro e w1 ⟨rfl, hb1⟩; (have c0 : w1.cell? ⟨w.heap.size, 0, none⟩ = some (.int .i64 p) := cellB hb1 (by go_simp)); (have hB1 : Below w.heap.size w w1 := Below.trans (by go_grown) (hb1.mono (by first | omega | (simp; done) | (simp; omega))))))
      go_ret
      exact ⟨congrArg (fun b => Ending.returned (.bool b)) (decide_eq_false (by omega : ¬ p ≤ 14)), hB1⟩
  · obtain rfl : t = false := by rw [← ht]; exact decide_eq_false (fun g => h ⟨g.1, by have := g.2.1; omega, g.2.2⟩)
    clear ht
    have HH := Lib.hid h
    clear h
    go_enter Try.func30, Try.ntmps30
    go_wp2_with (first | (go_at_call 58; (with_reducible refine (srGood_no p s _ HH.out).mono ?_); rintro e w1 ⟨rfl, hb1⟩; (have c0 : w1.cell? ⟨w.heap.size, 0, none⟩ = some (.int .i64 p) := cellB hb1 (by go_simp)); (have hB1 : Below w.heap.size w w1 := Below.trans (by go_grown) (hb1.mono (by first | omega | (simp; done) | (simp; omega))))))
    go_ret
    exact ⟨rfl, hB1⟩