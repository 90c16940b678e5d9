/- Hidden stars; DoesFit, both sides, the law. -/
import Derived.Test.YtpliaenpencocaaDoorX9
namespace Go.Proofs.YtpliaenpencocaaDoor
open Go.RowKit
set_option linter.unusedVariables false

def hidP (p s : Int) : Prop := 3 ≤ p ∧ p ≤ 14 ∧ 1 ≤ s ∧ s < p
instance (p s : Int) : Decidable (hidP p s) := by unfold hidP; infer_instance

set_option maxHeartbeats 1000000 in
theorem isHidden_any (p s : Int) (t : Bool) (w : World) (ht : decide (hidP p s) = t) :
    Calls Tryd.prog 61 #[.agg #[.int .i64 p, .int .i64 s]] w fun e w' => e = .returned (.bool t) ∧ Below w.heap.size w w' := by
  by_cases h : 3 ≤ p ∧ p ≤ 60 ∧ 1 ≤ s ∧ s < p
  · by_cases h14 : p ≤ 14
    · obtain rfl : t = true := by rw [← ht]; exact decide_eq_true ⟨h.1, h14, h.2.2⟩
      clear ht
      go_enter Tryd.func61, Tryd.ntmps61
      go_wp2_with (first | (go_at_call 87; (with_reducible refine (isStar_yes p s _ h).mono ?_); rintro e w1 ⟨rfl, hb1⟩; (have c0 : w1.cell? ⟨w.heap.size, 0, none⟩ = some (.int .i64 p) := cellB hb1 (by go_simp)); (have hB1 : Below w.heap.size w w1 := Below.trans (by go_grown) (hb1.mono (by first | omega | (simp; done) | (simp; omega))))))
      go_ret
      exact ⟨rfl, hB1⟩
    · obtain rfl : t = false := by rw [← ht]; exact decide_eq_false (fun g => h14 g.2.1)
      clear ht
      go_enter Tryd.func61, Tryd.ntmps61
      go_wp2_with (first | (go_at_call 87; (with_reducible refine (isStar_yes p s _ h).mono ?_); rintro e w1 ⟨rfl, hb1⟩; (have c0 : w1.cell? ⟨w.heap.size, 0, none⟩ = some (.int .i64 p) := cellB hb1 (by go_simp)); (have hB1 : Below w.heap.size w w1 := Below.trans (by go_grown) (hb1.mono (by first | omega | (simp; done) | (simp; omega))))))
      go_ret
      exact ⟨congrArg (fun b => Ending.returned (.bool b)) (decide_eq_false (by omega : ¬ p ≤ 14)), hB1⟩
  · obtain rfl : t = false := by rw [← ht]; exact decide_eq_false (fun g => h ⟨g.1, by have := g.2.1; omega, g.2.2⟩)
    clear ht
    have HH := Lib.hid h
    clear h
    go_enter Tryd.func61, Tryd.ntmps61
    go_wp2_with (first | (go_at_call 87; (with_reducible refine (isStar_no p s _ HH.out).mono ?_); rintro e w1 ⟨rfl, hb1⟩; (have c0 : w1.cell? ⟨w.heap.size, 0, none⟩ = some (.int .i64 p) := cellB hb1 (by go_simp)); (have hB1 : Below w.heap.size w w1 := Below.trans (by go_grown) (hb1.mono (by first | omega | (simp; done) | (simp; omega))))))
    go_ret
    exact ⟨rfl, hB1⟩

set_option maxHeartbeats 1000000 in
theorem pzHidden_any (p s : Int) (t : Bool) (w : World) (ht : decide (hidP p s) = t) :
    Calls Tryd.prog 59 #[.agg #[.int .i64 p, .int .i64 s]] w fun e w' => e = .returned (.bool t) ∧ Below w.heap.size w w' := by
  by_cases h : 3 ≤ p ∧ p ≤ 60 ∧ 1 ≤ s ∧ s < p
  · by_cases h14 : p ≤ 14
    · obtain rfl : t = true := by rw [← ht]; exact decide_eq_true ⟨h.1, h14, h.2.2⟩
      clear ht
      go_enter Tryd.func59, Tryd.ntmps59
      go_wp2_with (first | (go_at_call 85; (with_reducible refine (srGood_yes p s _ h).mono ?_); rintro e w1 ⟨rfl, hb1⟩; (have c0 : w1.cell? ⟨w.heap.size, 0, none⟩ = some (.int .i64 p) := cellB hb1 (by go_simp)); (have hB1 : Below w.heap.size w w1 := Below.trans (by go_grown) (hb1.mono (by first | omega | (simp; done) | (simp; omega))))))
      go_ret
      exact ⟨rfl, hB1⟩
    · obtain rfl : t = false := by rw [← ht]; exact decide_eq_false (fun g => h14 g.2.1)
      clear ht
      go_enter Tryd.func59, Tryd.ntmps59
      go_wp2_with (first | (go_at_call 85; (with_reducible refine (srGood_yes p s _ h).mono ?_); rintro e w1 ⟨rfl, hb1⟩; (have c0 : w1.cell? ⟨w.heap.size, 0, none⟩ = some (.int .i64 p) := cellB hb1 (by go_simp)); (have hB1 : Below w.heap.size w w1 := Below.trans (by go_grown) (hb1.mono (by first | omega | (simp; done) | (simp; omega))))))
      go_ret
      exact ⟨congrArg (fun b => Ending.returned (.bool b)) (decide_eq_false (by omega : ¬ p ≤ 14)), hB1⟩
  · obtain rfl : t = false := by rw [← ht]; exact decide_eq_false (fun g => h ⟨g.1, by have := g.2.1; omega, g.2.2⟩)
    clear ht
    have HH := Lib.hid h
    clear h
    go_enter Tryd.func59, Tryd.ntmps59
    go_wp2_with (first | (go_at_call 85; (with_reducible refine (srGood_no p s _ HH.out).mono ?_); rintro e w1 ⟨rfl, hb1⟩; (have c0 : w1.cell? ⟨w.heap.size, 0, none⟩ = some (.int .i64 p) := cellB hb1 (by go_simp)); (have hB1 : Below w.heap.size w w1 := Below.trans (by go_grown) (hb1.mono (by first | omega | (simp; done) | (simp; omega))))))
    go_ret
    exact ⟨rfl, hB1⟩

set_option maxHeartbeats 1000000 in
theorem iDoesFit_yes (k a b : Int) (p s : Nat) (w : World) (hc : clueP (k, a, b)) (hs : 3 ≤ p ∧ p ≤ 14 ∧ 1 ≤ s ∧ s < p) (hW : ClueW w) :
    Calls Tryd.prog 25 #[.agg #[.int .i64 k, .int .i64 a, .int .i64 b], .agg #[.int .i64 (p : Int), .int .i64 (s : Int)]] w fun e w' => e = .returned (.tuple #[.bool (fitZ (k, a, b) p s), .bool true]) ∧ Below w.heap.size w w' := by
  have HW := Lib.hid hW
  have HC := Lib.hid (show decide (clueP (k, a, b)) = true from decide_eq_true hc)
  have HH := Lib.hid (show decide (hidP (p : Int) (s : Int)) = true from decide_eq_true (by unfold hidP; omega))
  clear hW
  go_enter Tryd.func25, Tryd.ntmps25
  go_wp2_with (first | (go_at_call 17; (with_reducible refine (iIsClue_any k a b true _ HC.out (HW.out.later (by go_grown))).mono ?_); rintro e w1 ⟨rfl, hb1⟩; (have hB1 : Below w.heap.size w w1 := Below.trans (by go_grown) (hb1.mono (by first | omega | (simp; done) | (simp; omega)))); have hz1 := hB1.size; (have c0 : w1.cell? ⟨w.heap.size, 0, none⟩ = some (.int .i64 k) := cellB hb1 (by go_simp)); (have c1 : w1.cell? ⟨w.heap.size, 1, none⟩ = some (.int .i64 a) := cellB hb1 (by go_simp)); (have c2 : w1.cell? ⟨w.heap.size, 2, none⟩ = some (.int .i64 b) := cellB hb1 (by go_simp)); (have c3 : w1.cell? ⟨w.heap.size + 1, 0, none⟩ = some (.int .i64 (p : Int)) := cellB hb1 (by go_simp)); (have c4 : w1.cell? ⟨w.heap.size + 1, 1, none⟩ = some (.int .i64 (s : Int)) := cellB hb1 (by go_simp))) | (go_at_call 61; (with_reducible refine (isHidden_any p s true _ HH.out).mono ?_); rintro e w2 ⟨rfl, hb2⟩; (have hB2 := hB1.trans (hb2.mono hz1)); have hz2 := hB2.size; have d0 := cellB hb2 c0; have d1 := cellB hb2 c1; have d2 := cellB hb2 c2; have d3 := cellB hb2 c3; have d4 := cellB hb2 c4) | (go_at_call 62; (with_reducible refine (fits_any k a b p s _ _ hc hs rfl).mono ?_); rintro e w3 ⟨rfl, hb3⟩; have hB3 := hB2.trans (hb3.mono hz2)))
  go_ret2
  exact ⟨rfl, hB3⟩

set_option maxHeartbeats 1000000 in
theorem iDoesFit_c (k a b p s : Int) (w : World) (hc : ¬ clueP (k, a, b)) (hs : hidP p s) (hW : ClueW w) :
    Calls Tryd.prog 25 #[.agg #[.int .i64 k, .int .i64 a, .int .i64 b], .agg #[.int .i64 p, .int .i64 s]] w fun e w' => e = .returned (.tuple #[.bool false, .bool false]) ∧ Below w.heap.size w w' := by
  have HW := Lib.hid hW
  have HC := Lib.hid (show decide (clueP (k, a, b)) = false from decide_eq_false hc)
  have HH := Lib.hid (show decide (hidP p s) = true from decide_eq_true hs)
  clear hW hc hs
  go_enter Tryd.func25, Tryd.ntmps25
  go_wp2_with (first | (go_at_call 17; (with_reducible refine (iIsClue_any k a b false _ HC.out (HW.out.later (by go_grown))).mono ?_); rintro e w1 ⟨rfl, hb1⟩; (have hB1 : Below w.heap.size w w1 := Below.trans (by go_grown) (hb1.mono (by first | omega | (simp; done) | (simp; omega)))); have hz1 := hB1.size; (have c0 : w1.cell? ⟨w.heap.size, 0, none⟩ = some (.int .i64 k) := cellB hb1 (by go_simp)); (have c1 : w1.cell? ⟨w.heap.size, 1, none⟩ = some (.int .i64 a) := cellB hb1 (by go_simp)); (have c2 : w1.cell? ⟨w.heap.size, 2, none⟩ = some (.int .i64 b) := cellB hb1 (by go_simp)); (have c3 : w1.cell? ⟨w.heap.size + 1, 0, none⟩ = some (.int .i64 p) := cellB hb1 (by go_simp)); (have c4 : w1.cell? ⟨w.heap.size + 1, 1, none⟩ = some (.int .i64 s) := cellB hb1 (by go_simp))))
  go_ret2
  exact ⟨rfl, hB1⟩

set_option maxHeartbeats 1000000 in
theorem iDoesFit_h (k a b p s : Int) (w : World) (hc : clueP (k, a, b)) (hs : ¬ hidP p s) (hW : ClueW w) :
    Calls Tryd.prog 25 #[.agg #[.int .i64 k, .int .i64 a, .int .i64 b], .agg #[.int .i64 p, .int .i64 s]] w fun e w' => e = .returned (.tuple #[.bool false, .bool false]) ∧ Below w.heap.size w w' := by
  have HW := Lib.hid hW
  have HC := Lib.hid (show decide (clueP (k, a, b)) = true from decide_eq_true hc)
  have HH := Lib.hid (show decide (hidP p s) = false from decide_eq_false hs)
  clear hW hc hs
  go_enter Tryd.func25, Tryd.ntmps25
  go_wp2_with (first | (go_at_call 17; (with_reducible refine (iIsClue_any k a b true _ HC.out (HW.out.later (by go_grown))).mono ?_); rintro e w1 ⟨rfl, hb1⟩; (have hB1 : Below w.heap.size w w1 := Below.trans (by go_grown) (hb1.mono (by first | omega | (simp; done) | (simp; omega)))); have hz1 := hB1.size; (have c0 : w1.cell? ⟨w.heap.size, 0, none⟩ = some (.int .i64 k) := cellB hb1 (by go_simp)); (have c1 : w1.cell? ⟨w.heap.size, 1, none⟩ = some (.int .i64 a) := cellB hb1 (by go_simp)); (have c2 : w1.cell? ⟨w.heap.size, 2, none⟩ = some (.int .i64 b) := cellB hb1 (by go_simp)); (have c3 : w1.cell? ⟨w.heap.size + 1, 0, none⟩ = some (.int .i64 p) := cellB hb1 (by go_simp)); (have c4 : w1.cell? ⟨w.heap.size + 1, 1, none⟩ = some (.int .i64 s) := cellB hb1 (by go_simp))) | (go_at_call 61; (with_reducible refine (isHidden_any p s false _ HH.out).mono ?_); rintro e w2 ⟨rfl, hb2⟩; (have hB2 := hB1.trans (hb2.mono hz1)); have hz2 := hB2.size; have d0 := cellB hb2 c0; have d1 := cellB hb2 c1; have d2 := cellB hb2 c2; have d3 := cellB hb2 c3; have d4 := cellB hb2 c4))
  go_ret2
  exact ⟨rfl, hB2⟩

set_option maxHeartbeats 1000000 in
theorem iDoesFit_n (k a b p s : Int) (w : World) (hc : ¬ clueP (k, a, b)) (hs : ¬ hidP p s) (hW : ClueW w) :
    Calls Tryd.prog 25 #[.agg #[.int .i64 k, .int .i64 a, .int .i64 b], .agg #[.int .i64 p, .int .i64 s]] w fun e w' => e = .returned (.tuple #[.bool false, .bool false]) ∧ Below w.heap.size w w' := by
  have HW := Lib.hid hW
  have HC := Lib.hid (show decide (clueP (k, a, b)) = false from decide_eq_false hc)
  have HH := Lib.hid (show decide (hidP p s) = false from decide_eq_false hs)
  clear hW hc hs
  go_enter Tryd.func25, Tryd.ntmps25
  go_wp2_with (first | (go_at_call 17; (with_reducible refine (iIsClue_any k a b false _ HC.out (HW.out.later (by go_grown))).mono ?_); rintro e w1 ⟨rfl, hb1⟩; (have hB1 : Below w.heap.size w w1 := Below.trans (by go_grown) (hb1.mono (by first | omega | (simp; done) | (simp; omega)))); have hz1 := hB1.size; (have c0 : w1.cell? ⟨w.heap.size, 0, none⟩ = some (.int .i64 k) := cellB hb1 (by go_simp)); (have c1 : w1.cell? ⟨w.heap.size, 1, none⟩ = some (.int .i64 a) := cellB hb1 (by go_simp)); (have c2 : w1.cell? ⟨w.heap.size, 2, none⟩ = some (.int .i64 b) := cellB hb1 (by go_simp)); (have c3 : w1.cell? ⟨w.heap.size + 1, 0, none⟩ = some (.int .i64 p) := cellB hb1 (by go_simp)); (have c4 : w1.cell? ⟨w.heap.size + 1, 1, none⟩ = some (.int .i64 s) := cellB hb1 (by go_simp))))
  go_ret2
  exact ⟨rfl, hB1⟩

set_option maxHeartbeats 1000000 in
theorem sDoesFit_yes (k a b : Int) (p s : Nat) (w : World) (hc : clueP (k, a, b)) (hs : 3 ≤ p ∧ p ≤ 14 ∧ 1 ≤ s ∧ s < p) (hW : ClueW w) :
    Calls Tryd.prog 23 #[.agg #[.int .i64 k, .int .i64 a, .int .i64 b], .agg #[.int .i64 (p : Int), .int .i64 (s : Int)]] w fun e w' => e = .returned (.tuple #[.bool (fitZ (k, a, b) p s), .bool true]) ∧ Below w.heap.size w w' := by
  have HW := Lib.hid hW
  have HC := Lib.hid (show decide (clueP (k, a, b)) = true from decide_eq_true hc)
  have HH := Lib.hid (show decide (hidP (p : Int) (s : Int)) = true from decide_eq_true (by unfold hidP; omega))
  clear hW
  go_enter Tryd.func23, Tryd.ntmps23
  go_wp2_with (first | (go_at_call 59; (with_reducible refine (pzHidden_any p s true _ HH.out).mono ?_); rintro e w1 ⟨rfl, hb1⟩; (have hB1 : Below w.heap.size w w1 := Below.trans (by go_grown) (hb1.mono (by first | omega | (simp; done) | (simp; omega)))); have hz1 := hB1.size; (have c0 : w1.cell? ⟨w.heap.size, 0, none⟩ = some (.int .i64 k) := cellB hb1 (by go_simp)); (have c1 : w1.cell? ⟨w.heap.size, 1, none⟩ = some (.int .i64 a) := cellB hb1 (by go_simp)); (have c2 : w1.cell? ⟨w.heap.size, 2, none⟩ = some (.int .i64 b) := cellB hb1 (by go_simp)); (have c3 : w1.cell? ⟨w.heap.size + 1, 0, none⟩ = some (.int .i64 (p : Int)) := cellB hb1 (by go_simp)); (have c4 : w1.cell? ⟨w.heap.size + 1, 1, none⟩ = some (.int .i64 (s : Int)) := cellB hb1 (by go_simp))) | (go_at_call 53; (with_reducible refine (pzClue_any k a b true _ HC.out).mono ?_); rintro e w2 ⟨rfl, hb2⟩; (have hB2 := hB1.trans (hb2.mono hz1)); have hz2 := hB2.size; have d0 := cellB hb2 c0; have d1 := cellB hb2 c1; have d2 := cellB hb2 c2; have d3 := cellB hb2 c3; have d4 := cellB hb2 c4) | (go_at_call 60; (with_reducible refine (pzFits_any k a b p s _ _ hc hs rfl).mono ?_); rintro e w3 ⟨rfl, hb3⟩; have hB3 := hB2.trans (hb3.mono hz2)))
  go_ret2
  exact ⟨rfl, hB3⟩

set_option maxHeartbeats 1000000 in
theorem sDoesFit_c (k a b p s : Int) (w : World) (hc : ¬ clueP (k, a, b)) (hs : hidP p s) (hW : ClueW w) :
    Calls Tryd.prog 23 #[.agg #[.int .i64 k, .int .i64 a, .int .i64 b], .agg #[.int .i64 p, .int .i64 s]] w fun e w' => e = .returned (.tuple #[.bool false, .bool false]) ∧ Below w.heap.size w w' := by
  have HW := Lib.hid hW
  have HC := Lib.hid (show decide (clueP (k, a, b)) = false from decide_eq_false hc)
  have HH := Lib.hid (show decide (hidP p s) = true from decide_eq_true hs)
  clear hW hc hs
  go_enter Tryd.func23, Tryd.ntmps23
  go_wp2_with (first | (go_at_call 59; (with_reducible refine (pzHidden_any p s true _ HH.out).mono ?_); rintro e w1 ⟨rfl, hb1⟩; (have hB1 : Below w.heap.size w w1 := Below.trans (by go_grown) (hb1.mono (by first | omega | (simp; done) | (simp; omega)))); have hz1 := hB1.size; (have c0 : w1.cell? ⟨w.heap.size, 0, none⟩ = some (.int .i64 k) := cellB hb1 (by go_simp)); (have c1 : w1.cell? ⟨w.heap.size, 1, none⟩ = some (.int .i64 a) := cellB hb1 (by go_simp)); (have c2 : w1.cell? ⟨w.heap.size, 2, none⟩ = some (.int .i64 b) := cellB hb1 (by go_simp)); (have c3 : w1.cell? ⟨w.heap.size + 1, 0, none⟩ = some (.int .i64 p) := cellB hb1 (by go_simp)); (have c4 : w1.cell? ⟨w.heap.size + 1, 1, none⟩ = some (.int .i64 s) := cellB hb1 (by go_simp))) | (go_at_call 53; (with_reducible refine (pzClue_any k a b false _ HC.out).mono ?_); rintro e w2 ⟨rfl, hb2⟩; (have hB2 := hB1.trans (hb2.mono hz1)); have hz2 := hB2.size; have d0 := cellB hb2 c0; have d1 := cellB hb2 c1; have d2 := cellB hb2 c2; have d3 := cellB hb2 c3; have d4 := cellB hb2 c4))
  go_ret2
  exact ⟨rfl, hB2⟩

set_option maxHeartbeats 1000000 in
theorem sDoesFit_h (k a b p s : Int) (w : World) (hc : clueP (k, a, b)) (hs : ¬ hidP p s) (hW : ClueW w) :
    Calls Tryd.prog 23 #[.agg #[.int .i64 k, .int .i64 a, .int .i64 b], .agg #[.int .i64 p, .int .i64 s]] w fun e w' => e = .returned (.tuple #[.bool false, .bool false]) ∧ Below w.heap.size w w' := by
  have HW := Lib.hid hW
  have HC := Lib.hid (show decide (clueP (k, a, b)) = true from decide_eq_true hc)
  have HH := Lib.hid (show decide (hidP p s) = false from decide_eq_false hs)
  clear hW hc hs
  go_enter Tryd.func23, Tryd.ntmps23
  go_wp2_with (first | (go_at_call 59; (with_reducible refine (pzHidden_any p s false _ HH.out).mono ?_); rintro e w1 ⟨rfl, hb1⟩; (have hB1 : Below w.heap.size w w1 := Below.trans (by go_grown) (hb1.mono (by first | omega | (simp; done) | (simp; omega)))); have hz1 := hB1.size; (have c0 : w1.cell? ⟨w.heap.size, 0, none⟩ = some (.int .i64 k) := cellB hb1 (by go_simp)); (have c1 : w1.cell? ⟨w.heap.size, 1, none⟩ = some (.int .i64 a) := cellB hb1 (by go_simp)); (have c2 : w1.cell? ⟨w.heap.size, 2, none⟩ = some (.int .i64 b) := cellB hb1 (by go_simp)); (have c3 : w1.cell? ⟨w.heap.size + 1, 0, none⟩ = some (.int .i64 p) := cellB hb1 (by go_simp)); (have c4 : w1.cell? ⟨w.heap.size + 1, 1, none⟩ = some (.int .i64 s) := cellB hb1 (by go_simp))))
  go_ret2
  exact ⟨rfl, hB1⟩

set_option maxHeartbeats 1000000 in
theorem sDoesFit_n (k a b p s : Int) (w : World) (hc : ¬ clueP (k, a, b)) (hs : ¬ hidP p s) (hW : ClueW w) :
    Calls Tryd.prog 23 #[.agg #[.int .i64 k, .int .i64 a, .int .i64 b], .agg #[.int .i64 p, .int .i64 s]] w fun e w' => e = .returned (.tuple #[.bool false, .bool false]) ∧ Below w.heap.size w w' := by
  have HW := Lib.hid hW
  have HC := Lib.hid (show decide (clueP (k, a, b)) = false from decide_eq_false hc)
  have HH := Lib.hid (show decide (hidP p s) = false from decide_eq_false hs)
  clear hW hc hs
  go_enter Tryd.func23, Tryd.ntmps23
  go_wp2_with (first | (go_at_call 59; (with_reducible refine (pzHidden_any p s false _ HH.out).mono ?_); rintro e w1 ⟨rfl, hb1⟩; (have hB1 : Below w.heap.size w w1 := Below.trans (by go_grown) (hb1.mono (by first | omega | (simp; done) | (simp; omega)))); have hz1 := hB1.size; (have c0 : w1.cell? ⟨w.heap.size, 0, none⟩ = some (.int .i64 k) := cellB hb1 (by go_simp)); (have c1 : w1.cell? ⟨w.heap.size, 1, none⟩ = some (.int .i64 a) := cellB hb1 (by go_simp)); (have c2 : w1.cell? ⟨w.heap.size, 2, none⟩ = some (.int .i64 b) := cellB hb1 (by go_simp)); (have c3 : w1.cell? ⟨w.heap.size + 1, 0, none⟩ = some (.int .i64 p) := cellB hb1 (by go_simp)); (have c4 : w1.cell? ⟨w.heap.size + 1, 1, none⟩ = some (.int .i64 s) := cellB hb1 (by go_simp))))
  go_ret2
  exact ⟨rfl, hB1⟩

set_option maxHeartbeats 2000000 in
theorem core_DoesFit (k a b p s : Int) (x y : Bool) (w : World) (hW : ClueW w)
    (hs : ∀ W, ClueW W → Calls Tryd.prog 23 #[.agg #[.int .i64 k, .int .i64 a, .int .i64 b], .agg #[.int .i64 p, .int .i64 s]] W (fun e w' => e = .returned (.tuple #[.bool x, .bool y]) ∧ Below W.heap.size W w'))
    (hi : ∀ W, ClueW W → Calls Tryd.prog 25 #[.agg #[.int .i64 k, .int .i64 a, .int .i64 b], .agg #[.int .i64 p, .int .i64 s]] W (fun e w' => e = .returned (.tuple #[.bool x, .bool y]) ∧ Below W.heap.size W w')) :
    Calls Tryd.prog 5 #[.agg #[.int .i64 k, .int .i64 a, .int .i64 b], .agg #[.int .i64 p, .int .i64 s]] w fun e w' => e = .returned (.bool true) ∧ Below w.heap.size w w' := by
  have HS := Lib.hid hs
  have HI := Lib.hid hi
  have HW := Lib.hid hW
  clear hs hi hW
  go_enter Tryd.func5, Tryd.ntmps5
  go_wp2
  go_region_held3 (fun w' => w'.cell? ⟨w.heap.size, 0, none⟩ = some (.int .i64 k) ∧ w'.cell? ⟨w.heap.size, 1, none⟩ = some (.int .i64 a) ∧ w'.cell? ⟨w.heap.size, 2, none⟩ = some (.int .i64 b) ∧ w'.cell? ⟨w.heap.size + 1, 0, none⟩ = some (.int .i64 p) ∧ w'.cell? ⟨w.heap.size + 1, 1, none⟩ = some (.int .i64 s)) (go_keep)
    (first | (go_at_call 16; refine (toClue_any _ _ _ _).mono ?_; rintro e w1 ⟨rfl, hx1⟩; (have hb1 : Below w.heap.size w w1 := Below.trans (by go_grown) (hx1.mono (by first | omega | (simp; done) | (simp; omega)))); (have n1 : w.heap.size + 2 ≤ w1.heap.size := by have := hx1.size; (try simp at this); omega); (have B1 : Below w.heap.size w w1 := hb1); (have zkx1 : w1.cell? ⟨w.heap.size, 0, none⟩ = some (.int .i64 k) := cellB hx1 (by go_simp)); (have zky1 : w1.cell? ⟨w.heap.size, 1, none⟩ = some (.int .i64 a) := cellB hx1 (by go_simp)); (have zkz1 : w1.cell? ⟨w.heap.size, 2, none⟩ = some (.int .i64 b) := cellB hx1 (by go_simp)); (have zsx1 : w1.cell? ⟨w.heap.size + 1, 0, none⟩ = some (.int .i64 p) := cellB hx1 (by go_simp)); (have zsy1 : w1.cell? ⟨w.heap.size + 1, 1, none⟩ = some (.int .i64 s) := cellB hx1 (by go_simp))) | (go_at_call 24; refine (toStar_any _ _ _).mono ?_; rintro e w2 ⟨rfl, hx2⟩; (have hb2 : Below w1.heap.size w1 w2 := Below.trans (by go_grown) (hx2.mono (by first | omega | (simp; done) | (simp; omega)))); (have n2 : w1.heap.size + 0 ≤ w2.heap.size := by have := hx2.size; (try simp at this); omega); (have B2 : Below w.heap.size w w2 := B1.trans (hb2.mono (by omega))); (have zkx2 := cellB hb2 zkx1); (have zky2 := cellB hb2 zky1); (have zkz2 := cellB hb2 zkz1); (have zsx2 := cellB hb2 zsx1); (have zsy2 := cellB hb2 zsy1)) | (go_at_call 23; refine (HS.out _ (HW.out.later (Below.trans B2 (by go_grown)))).mono ?_; rintro e w3 ⟨rfl, hx3⟩; (have hb3 : Below w2.heap.size w2 w3 := Below.trans (by go_grown) (hx3.mono (by first | omega | (simp; done) | (simp; omega)))); (have n3 : w2.heap.size + 0 ≤ w3.heap.size := by have := hx3.size; (try simp at this); omega); (have B3 : Below w.heap.size w w3 := B2.trans (hb3.mono (by omega))); (have zkx3 := cellB hb3 zkx2); (have zky3 := cellB hb3 zky2); (have zkz3 := cellB hb3 zkz2); (have zsx3 := cellB hb3 zsx2); (have zsy3 := cellB hb3 zsy2)))
  go_wp2
  go_region_held3 (fun w' => w'.cell? ⟨w.heap.size, 0, none⟩ = some (.int .i64 k) ∧ w'.cell? ⟨w.heap.size, 1, none⟩ = some (.int .i64 a) ∧ w'.cell? ⟨w.heap.size, 2, none⟩ = some (.int .i64 b) ∧ w'.cell? ⟨w.heap.size + 1, 0, none⟩ = some (.int .i64 p) ∧ w'.cell? ⟨w.heap.size + 1, 1, none⟩ = some (.int .i64 s)) (go_keep)
    (first | (go_at_call 16; refine (toClue_any _ _ _ _).mono ?_; rintro e w4 ⟨rfl, hx4⟩; (have hb4 : Below w3.heap.size w3 w4 := Below.trans (by go_grown) (hx4.mono (by first | omega | (simp; done) | (simp; omega)))); (have n4 : w3.heap.size + 0 ≤ w4.heap.size := by have := hx4.size; (try simp at this); omega); (have B4 : Below w.heap.size w w4 := B3.trans (hb4.mono (by omega))); (have zkx4 := cellB hb4 zkx3); (have zky4 := cellB hb4 zky3); (have zkz4 := cellB hb4 zkz3); (have zsx4 := cellB hb4 zsx3); (have zsy4 := cellB hb4 zsy3)) | (go_at_call 24; refine (toStar_any _ _ _).mono ?_; rintro e w5 ⟨rfl, hx5⟩; (have hb5 : Below w4.heap.size w4 w5 := Below.trans (by go_grown) (hx5.mono (by first | omega | (simp; done) | (simp; omega)))); (have n5 : w4.heap.size + 0 ≤ w5.heap.size := by have := hx5.size; (try simp at this); omega); (have B5 : Below w.heap.size w w5 := B4.trans (hb5.mono (by omega))); (have zkx5 := cellB hb5 zkx4); (have zky5 := cellB hb5 zky4); (have zkz5 := cellB hb5 zkz4); (have zsx5 := cellB hb5 zsx4); (have zsy5 := cellB hb5 zsy4)) | (go_at_call 25; refine (HI.out _ (HW.out.later (Below.trans B5 (by go_grown)))).mono ?_; rintro e w6 ⟨rfl, hx6⟩; (have hb6 : Below w5.heap.size w5 w6 := Below.trans (by go_grown) (hx6.mono (by first | omega | (simp; done) | (simp; omega)))); (have n6 : w5.heap.size + 0 ≤ w6.heap.size := by have := hx6.size; (try simp at this); omega); (have B6 : Below w.heap.size w w6 := B5.trans (hb6.mono (by omega))); (have zkx6 := cellB hb6 zkx5); (have zky6 := cellB hb6 zky5); (have zkz6 := cellB hb6 zkz5); (have zsx6 := cellB hb6 zsx5); (have zsy6 := cellB hb6 zsy5)))
  go_wp2_with fail
  go_ret
  exact ⟨rfl, B6⟩

theorem walk_DoesFit (k a b p s : Int) (w : World) (hW : ClueW w) :
    Calls Tryd.prog 5 #[.agg #[.int .i64 k, .int .i64 a, .int .i64 b], .agg #[.int .i64 p, .int .i64 s]] w fun e w' => e = .returned (.bool true) ∧ Below w.heap.size w w' := by
  by_cases hc : clueP (k, a, b)
  · by_cases hh : hidP p s
    · have hh' := hh
      unfold hidP at hh'
      obtain ⟨p, rfl⟩ := Int.eq_ofNat_of_zero_le (show 0 ≤ p by omega)
      obtain ⟨s, rfl⟩ := Int.eq_ofNat_of_zero_le (show 0 ≤ s by omega)
      exact core_DoesFit k a b p s _ _ w hW (fun W hw => sDoesFit_yes k a b p s W hc (by omega) hw) (fun W hw => iDoesFit_yes k a b p s W hc (by omega) hw)
    · exact core_DoesFit k a b p s _ _ w hW (fun W hw => sDoesFit_h k a b p s W hc hh hw) (fun W hw => iDoesFit_h k a b p s W hc hh hw)
  · by_cases hh : hidP p s
    · exact core_DoesFit k a b p s _ _ w hW (fun W hw => sDoesFit_c k a b p s W hc hh hw) (fun W hw => iDoesFit_c k a b p s W hc hh hw)
    · exact core_DoesFit k a b p s _ _ w hW (fun W hw => sDoesFit_n k a b p s W hc hh hw) (fun W hw => iDoesFit_n k a b p s W hc hh hw)
end Go.Proofs.YtpliaenpencocaaDoor
