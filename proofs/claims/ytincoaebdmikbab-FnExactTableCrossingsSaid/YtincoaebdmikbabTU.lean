/- How many pairs of a table's chords cross. -/
import Derived.Test.YtincoaebdmikbabTS
import Derived.Test.YtincoaebdmikbabZ8
namespace Go.Proofs.Ytincoaebdmikbab
open Go.RowKit
set_option linter.unusedVariables false

theorem rowP_count (xs : List (Int × Int)) (i m : Nat) (h : i + 1 + m ≤ xs.length) : (rowP xs i (i + 1 + m)).length = cntC (xs.getD i (0, 0)) ((xs.drop (i + 1)).take m) := by
  induction m with
  | zero => rw [Nat.add_zero, rowP_none xs i (i + 1) (Nat.le_refl _)]; simp [cntC]
  | succ m ih =>
    rw [cntC_drop_take _ xs i m (by omega), ← ih (by omega), show i + 1 + (m + 1) = (i + 1 + m) + 1 by omega]
    cases hc : crossP (xs.getD i (0, 0)) (xs.getD (i + 1 + m) (0, 0)) with
    | true => rw [rowP_yes xs i _ (by omega) hc]; simp
    | false => rw [rowP_no xs i _ hc]; simp

theorem allP_count (xs : List (Int × Int)) (k : Nat) (hk : k ≤ xs.length) : (allP xs k).length + pairsC (xs.drop k) = pairsC xs := by
  induction k with
  | zero => simp [allP]
  | succ k ih =>
    have h1 := ih (by omega)
    have h2 := rowP_count xs k (xs.length - (k + 1)) (by omega)
    rw [show k + 1 + (xs.length - (k + 1)) = xs.length by omega, List.take_of_length_le (by simp)] at h2
    rw [allP, List.length_append, h2]
    rw [pairsC_drop xs k (by omega)] at h1
    omega

theorem allP_pairs (xs : List (Int × Int)) : (allP xs xs.length).length = pairsC xs := by
  have := allP_count xs xs.length (Nat.le_refl _)
  rw [List.drop_length] at this
  simpa [pairsC] using this

theorem chordsF_less (p f : Nat) (h : 3 ≤ p ∧ p ≤ 60) (k : Nat) (hk : k < (chordsF p f).length) : ((chordsF p f).getD k (0, 0)).1 < ((chordsF p f).getD k (0, 0)).2 := ((chordsF_good p f h).2.2 k hk).1.2.1

set_option maxHeartbeats 1000000 in
theorem iTableCrossings_yes (p f : Nat) (w : World) (h : 3 ≤ p ∧ p ≤ 60) (hf : f < p) :
    Calls Try.prog 24 #[.int .i64 p, .int .i64 f] w fun e w' => e = .returned (.tuple #[.int .i64 (pairsC (chordsF p f) : Nat), .bool true]) ∧ Below w.heap.size w w' := by
  have HL := Lib.hid (chordsF_length p f)
  have HC := Lib.hid (chordsF_less p f h)
  have HP := Lib.hid (allP_pairs (chordsF p f))
  go_enter Try.func24, Try.ntmps24
  go_wp2_with (first
    | (go_at_call 17; (with_reducible refine (iTimesChords_yes _ _ _ h hf).mono ?_); rintro e w1 ⟨v, rfl, hP, hb1⟩; have HPP := Lib.hid hP; obtain ⟨a0, c0, g0, rfl, _, hm0, _⟩ := hP.pairs.view; clear hP)
    | (go_at_call 49; (refine (pairsCrossing_any _ (chordsF p f) _ _ _ HPP.out HC.out (by have := HL.out; omega)).mono ?_); rintro e w2 ⟨v2, rfl, hr, hb2⟩; obtain ⟨vs, hr⟩ := hr; obtain ⟨a2, c2, g2, rfl, _, hm2, _⟩ := hr.view; rw [HP.out] at *; clear hr))
  go_ret2
  exact ⟨rfl, hb1.trans (hb2.mono hb1.size)⟩

set_option maxHeartbeats 1000000 in
theorem iTableCrossings_no (p f : Int) (w : World) (h : ¬ ((3 ≤ p ∧ p ≤ 60) ∧ (0 ≤ f ∧ f < p))) :
    Calls Try.prog 24 #[.int .i64 p, .int .i64 f] w fun e w' => e = .returned (.tuple #[.int .i64 0, .bool false]) ∧ Below w.heap.size w w' := by
  go_enter Try.func24, Try.ntmps24
  go_wp2_with (first
    | (go_at_call 17; (with_reducible refine (iTimesChords_no _ _ _ h).mono ?_); rintro e w1 ⟨v, rfl, hP, hb1⟩; have HPP := Lib.hid hP; obtain ⟨a0, c0, g0, rfl, _, hm0, _⟩ := hP.pairs.view; clear hP)
    | (go_at_call 49; (refine (pairsCrossing_any _ [] _ _ _ HPP.out (fun k hk => absurd hk (by simp)) (by simp)).mono ?_); rintro e w2 ⟨v2, rfl, hr, hb2⟩; obtain ⟨vs, hr⟩ := hr; obtain ⟨a2, c2, g2, rfl, _, hm2, _⟩ := hr.view; clear hr))
  go_ret2
  exact ⟨by first | rfl | simp [allP], hb1.trans (hb2.mono hb1.size)⟩

set_option maxHeartbeats 400000 in
theorem sTableCrossings_yes (p f : Nat) (w : World) (h : 3 ≤ p ∧ p ≤ 60) (hf : f < p) :
    Calls Try.prog 23 #[.int .i64 p, .int .i64 f] w fun e w' => e = .returned (.tuple #[.int .i64 (pairsC (chordsF p f) : Nat), .bool true]) ∧ Below w.heap.size w w' := by
  have g : (3 ≤ (p : Int) ∧ (p : Int) ≤ 60) ∧ (0 ≤ (f : Int) ∧ (f : Int) < p) := by omega
  have HL := Lib.hid (chordsF_length p f)
  have HC := Lib.hid (chordsF_less p f h)
  go_enter Try.func23, Try.ntmps23
  go_wp2_with (first
    | (go_at_call 29; (with_reducible refine (taGood_yes _ _ _ g).mono ?_); rintro e w1 ⟨rfl, rfl⟩)
    | (go_at_call 40; (with_reducible refine (taChords_any _ _ _ h hf).mono ?_); rintro e w1 ⟨v, rfl, hP, hb1⟩; have HPP := Lib.hid hP; clear hP)
    | (go_at_call 48; (refine (srCount_any _ (chordsF p f) _ _ _ HPP.out HC.out (by have := HL.out; omega)).mono ?_); rintro e w2 ⟨rfl, hb2⟩))
  go_ret2
  exact ⟨rfl, hb1.trans (hb2.mono hb1.size)⟩

set_option maxHeartbeats 400000 in
theorem sTableCrossings_no (p f : Int) (w : World) (h : ¬ ((3 ≤ p ∧ p ≤ 60) ∧ (0 ≤ f ∧ f < p))) :
    Calls Try.prog 23 #[.int .i64 p, .int .i64 f] w fun e w' => e = .returned (.tuple #[.int .i64 0, .bool false]) ∧ Below w.heap.size w w' := by
  go_enter Try.func23, Try.ntmps23
  go_wp2_with (first | (go_at_call 29; (with_reducible refine (taGood_no _ _ _ h).mono ?_); rintro e w1 ⟨rfl, rfl⟩))
  go_ret2
  exact ⟨rfl, Below.refl _ _⟩

set_option maxHeartbeats 400000 in
theorem walk_TableCrossings (p f : Int) (w : World) (_ : (Lit.int .i64 p).wf = true) (_ : (Lit.int .i64 f).wf = true) :
    Calls Try.prog 7 #[.int .i64 p, .int .i64 f] w fun e w' => e = .returned (.bool true) ∧ Below w.heap.size w w' := by
  by_cases h : (3 ≤ p ∧ p ≤ 60) ∧ (0 ≤ f ∧ f < p)
  · obtain ⟨p, rfl⟩ := Int.eq_ofNat_of_zero_le (show 0 ≤ p by omega)
    obtain ⟨f, rfl⟩ := Int.eq_ofNat_of_zero_le (show 0 ≤ f by omega)
    have h1 : 3 ≤ p ∧ p ≤ 60 := by omega
    have h2 : f < p := by omega
    clear h
    go_enter Try.func7, Try.ntmps7
    go_wp2_with (first | (go_at_call 23; (with_reducible refine (sTableCrossings_yes p f _ h1 h2).mono ?_); rintro e w1 ⟨rfl, hb1⟩) | (go_at_call 24; (with_reducible refine (iTableCrossings_yes p f _ h1 h2).mono ?_); rintro e w2 ⟨rfl, hb2⟩))
    go_ret
    exact ⟨rfl, hb1.trans (hb2.mono hb1.size)⟩
  · go_enter Try.func7, Try.ntmps7
    go_wp2_with (first | (go_at_call 23; (with_reducible refine (sTableCrossings_no _ _ _ h).mono ?_); rintro e w1 ⟨rfl, hb1⟩) | (go_at_call 24; (with_reducible refine (iTableCrossings_no _ _ _ h).mono ?_); rintro e w2 ⟨rfl, hb2⟩))
    go_ret
    exact ⟨rfl, hb1.trans (hb2.mono hb1.size)⟩

end Go.Proofs.Ytincoaebdmikbab
