/- Sets of chords, the pairs that cross, how many there are, and whether a set is plane: the laws. -/
import Derived.Test.YtnldnjgnpdicnaaK3
import Derived.Test.YtnldnjgnpdicnaaK4
import Derived.Test.YtnldnjgnpdicnaaK6
namespace Go.Proofs.Ytnldnjgnpdicnaa
open Go.RowKit
set_option linter.unusedVariables false

theorem giveRows {w w' : World} {v : Value} {xss : List (List Int)} (b : Bool) {B : Nat} (hI : RowsIn 33 3 w' B w'.heap.size v xss) (hB : w.heap.size ≤ B) (hb : Below w.heap.size w w') : Gives (RowsIn 33 3) w xss b (.returned (.tuple #[v, .bool b])) w' := by
  obtain ⟨vs, hv⟩ := hI
  exact ⟨v, rfl, ⟨vs, hv.lower hB⟩, hb⟩

theorem giveNoRows {w w' : World} (hb : Below w.heap.size w w') : Gives (RowsIn 33 3) w [] false (.returned (.tuple #[.slice none 0 0, .bool false])) w' :=
  ⟨_, rfl, RowsIn.nil _ _ _ _ _, hb⟩

set_option maxHeartbeats 400000 in
theorem iCrossingPairs_yes (p : Int) (u : Value) (xs : List (Int × Int)) (B T : Nat) (w : World) (h : PairsIn 52 w B T u xs) (hT : T ≤ w.heap.size) (hg : goodC p xs) : Calls Try.prog 163 #[.int .i64 p, u] w (Gives (RowsIn 33 3) w (allP xs xs.length) true) := by
  have hl := hg.2.1
  have ho := chord_order hg
  go_enter Try.func163, Try.ntmps163
  go_wp2_with (first | (go_at_call 178; (with_reducible refine (AreChords_yes p u xs B T _ h hg).mono ?_); rintro e w1 ⟨rfl, hb1⟩; have h1 := h.keep (belowSame hb1 hT); have hz1 := hb1.size) | (go_at_call 149; (with_reducible refine (pairsCrossing_any u xs B T _ h1 ho (Nat.le_trans hl (by omega))).mono ?_); rintro e w2 ⟨v, rfl, hr, hb2⟩; have hB2 := hb1.trans (hb2.mono hz1)))
  go_ret2
  exact giveRows true hr hz1 hB2

set_option maxHeartbeats 400000 in
theorem iCrossingPairs_no (p : Int) (u : Value) (xs : List (Int × Int)) (B T : Nat) (w : World) (h : PairsIn 52 w B T u xs) (hT : T ≤ w.heap.size) (hg : ¬ goodC p xs) : Calls Try.prog 163 #[.int .i64 p, u] w (Gives (RowsIn 33 3) w [] false) := by
  go_enter Try.func163, Try.ntmps163
  go_wp2_with (first | (go_at_call 178; (with_reducible refine (AreChords_no p u xs B T _ h hg).mono ?_); rintro e w1 ⟨rfl, hb1⟩))
  go_ret2
  exact giveNoRows hb1

set_option maxHeartbeats 400000 in
theorem iCountPairs_yes (p : Int) (u : Value) (xs : List (Int × Int)) (B T : Nat) (w : World) (h : PairsIn 52 w B T u xs) (hT : T ≤ w.heap.size) (hg : goodC p xs) : Calls Try.prog 148 #[.int .i64 p, u] w fun e w' => e = .returned (.tuple #[.int .i64 ((allP xs xs.length).length : Nat), .bool true]) ∧ Below w.heap.size w w' := by
  have hl := hg.2.1
  have ho := chord_order hg
  go_enter Try.func148, Try.ntmps148
  go_wp2_with (go_at_call 163; (with_reducible refine (iCrossingPairs_yes p u xs B T _ h hT hg).mono ?_); rintro e w1 ⟨v, rfl, hr, hb1⟩; obtain ⟨vs, hv⟩ := hr; obtain ⟨a0, cap0, g0, rfl, _⟩ := hv.view)
  go_ret2
  exact ⟨rfl, hb1⟩

set_option maxHeartbeats 400000 in
theorem iCountPairs_no (p : Int) (u : Value) (xs : List (Int × Int)) (B T : Nat) (w : World) (h : PairsIn 52 w B T u xs) (hT : T ≤ w.heap.size) (hg : ¬ goodC p xs) : Calls Try.prog 148 #[.int .i64 p, u] w fun e w' => e = .returned (.tuple #[.int .i64 0, .bool false]) ∧ Below w.heap.size w w' := by
  go_enter Try.func148, Try.ntmps148
  go_wp2_with (go_at_call 163; (with_reducible refine (iCrossingPairs_no p u xs B T _ h hT hg).mono ?_); rintro e w1 ⟨v, rfl, hr, hb1⟩; obtain ⟨vs, hv⟩ := hr; obtain ⟨a0, cap0, g0, rfl, _⟩ := hv.view)
  go_ret2
  exact ⟨rfl, hb1⟩

set_option maxHeartbeats 400000 in
theorem iIsPlane_yes (p : Int) (u : Value) (xs : List (Int × Int)) (B T : Nat) (w : World) (h : PairsIn 52 w B T u xs) (hT : T ≤ w.heap.size) (hg : goodC p xs) : Calls Try.prog 130 #[.int .i64 p, u] w fun e w' => e = .returned (.tuple #[.bool (((allP xs xs.length).length : Int) == 0), .bool true]) ∧ Below w.heap.size w w' := by
  have hl := hg.2.1
  have ho := chord_order hg
  go_enter Try.func130, Try.ntmps130
  go_wp2_with (go_at_call 148; (with_reducible refine (iCountPairs_yes p u xs B T _ h hT hg).mono ?_); rintro e w1 ⟨rfl, hb1⟩)
  go_ret2
  exact ⟨rfl, hb1⟩

set_option maxHeartbeats 400000 in
theorem iIsPlane_no (p : Int) (u : Value) (xs : List (Int × Int)) (B T : Nat) (w : World) (h : PairsIn 52 w B T u xs) (hT : T ≤ w.heap.size) (hg : ¬ goodC p xs) : Calls Try.prog 130 #[.int .i64 p, u] w fun e w' => e = .returned (.tuple #[.bool false, .bool false]) ∧ Below w.heap.size w w' := by
  go_enter Try.func130, Try.ntmps130
  go_wp2_with (go_at_call 148; (with_reducible refine (iCountPairs_no p u xs B T _ h hT hg).mono ?_); rintro e w1 ⟨rfl, hb1⟩)
  go_ret2
  exact ⟨rfl, hb1⟩

end Go.Proofs.Ytnldnjgnpdicnaa
