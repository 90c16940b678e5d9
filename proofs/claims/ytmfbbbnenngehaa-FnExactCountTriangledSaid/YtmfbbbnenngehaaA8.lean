/- Regions: the most ones, sets that leave triangles counted, and the regions of a star. -/
import Derived.Test.YtmfbbbnenngehaaA4
import Derived.Test.YtmfbbbnenngehaaQ2
import Derived.Test.YtmfbbbnenngehaaAP
import Derived.Test.YtmfbbbnenngehaaRows
namespace Go.Proofs.Ytmfbbbnenngehaa
open Go.RowKit
set_option linter.unusedVariables false

set_option maxHeartbeats 400000 in
theorem core_MostRegions (p : Int) (x : Int) (b : Bool) (w : World)
    (hs : ∀ W, Calls Try.prog 22 #[.int .i64 p] W fun e w' => e = .returned (.tuple #[.int .i64 x, .bool b]) ∧ Below W.heap.size W w')
    (hi : ∀ W, Calls Try.prog 23 #[.int .i64 p] W fun e w' => e = .returned (.tuple #[.int .i64 x, .bool b]) ∧ Below W.heap.size W w') :
    Calls Try.prog 5 #[.int .i64 p] w fun e w' => e = .returned (.bool true) ∧ Below w.heap.size w w' := by
  have HS := Lib.hid hs
  have HI := Lib.hid hi
  clear hs hi
  go_enter Try.func5, Try.ntmps5
  go_wp2_with fail
  refine (HS.out _).mono ?_
  rintro e w1 ⟨rfl, hb1⟩
  go_wp2_with fail
  refine (HI.out _).mono ?_
  rintro e w2 ⟨rfl, hb2⟩
  go_wp2_with fail
  go_ret
  exact ⟨rfl, hb1.trans (hb2.mono hb1.size)⟩

set_option maxHeartbeats 400000 in
theorem core_CountTriangled (p : Int) (x : Int) (b : Bool) (w : World)
    (hs : ∀ W, Calls Try.prog 38 #[.int .i64 p] W fun e w' => e = .returned (.tuple #[.int .i64 x, .bool b]) ∧ Below W.heap.size W w')
    (hi : ∀ W, Calls Try.prog 39 #[.int .i64 p] W fun e w' => e = .returned (.tuple #[.int .i64 x, .bool b]) ∧ Below W.heap.size W w') :
    Calls Try.prog 12 #[.int .i64 p] w fun e w' => e = .returned (.bool true) ∧ Below w.heap.size w w' := by
  have HS := Lib.hid hs
  have HI := Lib.hid hi
  clear hs hi
  go_enter Try.func12, Try.ntmps12
  go_wp2_with fail
  refine (HS.out _).mono ?_
  rintro e w1 ⟨rfl, hb1⟩
  go_wp2_with fail
  refine (HI.out _).mono ?_
  rintro e w2 ⟨rfl, hb2⟩
  go_wp2_with fail
  go_ret
  exact ⟨rfl, hb1.trans (hb2.mono hb1.size)⟩

set_option maxHeartbeats 400000 in
theorem isCountedFor_yes (p : Int) (w : World) (h : 3 ≤ p ∧ p ≤ 20) :
    Calls Try.prog 57 #[.int .i64 p] w fun e w' => e = .returned (.bool true) ∧ w = w' := by
  obtain ⟨h1, h2⟩ := h
  go_enter Try.func57, Try.ntmps57
  go_wp2_with (first | (go_at_call 72; (with_reducible refine (isPointCount_yes _ _ (by omega)).mono ?_); rintro e w1 ⟨rfl, rfl⟩))
  go_ret
  exact ⟨rfl, rfl⟩

set_option maxHeartbeats 400000 in
theorem isCountedFor_no (p : Int) (w : World) (h : ¬ (3 ≤ p ∧ p ≤ 20)) :
    Calls Try.prog 57 #[.int .i64 p] w fun e w' => e = .returned (.bool false) ∧ w = w' := by
  by_cases h1 : 3 ≤ p ∧ p ≤ 60
  · have h2 : decide (p ≤ 20) = false := decide_eq_false (by omega)
    clear h
    go_enter Try.func57, Try.ntmps57
    go_wp2_with (first | (go_at_call 72; (with_reducible refine (isPointCount_yes _ _ h1).mono ?_); rintro e w1 ⟨rfl, rfl⟩))
    go_ret
    exact ⟨rfl, rfl⟩
  · clear h
    go_enter Try.func57, Try.ntmps57
    go_wp2_with (first | (go_at_call 72; (with_reducible refine (isPointCount_no _ _ h1).mono ?_); rintro e w1 ⟨rfl, rfl⟩))
    go_ret
    exact ⟨rfl, rfl⟩

/-- The regions of all chords of so many points. -/
def mostN (p : Int) : Int := [4, 8, 16, 31, 57, 99, 163, 256, 386, 562, 794, 1093, 1471, 1941, 2517, 3214, 4048, 5036].getD (p.toNat - 3) 0

set_option maxHeartbeats 4000000 in
theorem iMostRegions_yes (p : Int) (w : World) (h : 3 ≤ p ∧ p ≤ 20) :
    Calls Try.prog 23 #[.int .i64 p] w fun e w' => e = .returned (.tuple #[.int .i64 (mostN p), .bool true]) ∧ Below w.heap.size w w' := by
  have hc : p = 3 ∨ p = 4 ∨ p = 5 ∨ p = 6 ∨ p = 7 ∨ p = 8 ∨ p = 9 ∨ p = 10 ∨ p = 11 ∨ p = 12 ∨ p = 13 ∨ p = 14 ∨ p = 15 ∨ p = 16 ∨ p = 17 ∨ p = 18 ∨ p = 19 ∨ p = 20 := by omega
  rcases hc with rfl | rfl | rfl | rfl | rfl | rfl | rfl | rfl | rfl | rfl | rfl | rfl | rfl | rfl | rfl | rfl | rfl | rfl
  all_goals
    go_enter Try.func23, Try.ntmps23
    go_wp2_with (first | (go_at_call 57; (with_reducible refine (isCountedFor_yes _ _ (by omega)).mono ?_); rintro e w1 ⟨rfl, rfl⟩))
    go_ret2
    exact ⟨by rfl, by go_grown⟩

set_option maxHeartbeats 4000000 in
theorem sMostRegions_yes (p : Int) (w : World) (h : 3 ≤ p ∧ p ≤ 20) :
    Calls Try.prog 22 #[.int .i64 p] w fun e w' => e = .returned (.tuple #[.int .i64 (mostN p), .bool true]) ∧ Below w.heap.size w w' := by
  have hc : p = 3 ∨ p = 4 ∨ p = 5 ∨ p = 6 ∨ p = 7 ∨ p = 8 ∨ p = 9 ∨ p = 10 ∨ p = 11 ∨ p = 12 ∨ p = 13 ∨ p = 14 ∨ p = 15 ∨ p = 16 ∨ p = 17 ∨ p = 18 ∨ p = 19 ∨ p = 20 := by omega
  rcases hc with rfl | rfl | rfl | rfl | rfl | rfl | rfl | rfl | rfl | rfl | rfl | rfl | rfl | rfl | rfl | rfl | rfl | rfl
  all_goals
    go_enter Try.func22, Try.ntmps22
    go_wp2_with (first | (go_at_call 56; (with_reducible refine (l1In_yes _ _ _ _ (by omega)).mono ?_); rintro e w1 ⟨rfl, rfl⟩))
    go_ret2
    exact ⟨by rfl, by go_grown⟩

set_option maxHeartbeats 400000 in
theorem iMostRegions_no (p : Int) (w : World) (h : ¬ (3 ≤ p ∧ p ≤ 20)) :
    Calls Try.prog 23 #[.int .i64 p] w fun e w' => e = .returned (.tuple #[.int .i64 0, .bool false]) ∧ Below w.heap.size w w' := by
  go_enter Try.func23, Try.ntmps23
  go_wp2_with (first | (go_at_call 57; (with_reducible refine (isCountedFor_no _ _ h).mono ?_); rintro e w1 ⟨rfl, rfl⟩))
  go_ret2
  exact ⟨rfl, by go_grown⟩

set_option maxHeartbeats 400000 in
theorem sMostRegions_no (p : Int) (w : World) (h : ¬ (3 ≤ p ∧ p ≤ 20)) :
    Calls Try.prog 22 #[.int .i64 p] w fun e w' => e = .returned (.tuple #[.int .i64 0, .bool false]) ∧ Below w.heap.size w w' := by
  go_enter Try.func22, Try.ntmps22
  go_wp2_with (first | (go_at_call 56; (with_reducible refine (l1In_no _ _ _ _ h).mono ?_); rintro e w1 ⟨rfl, rfl⟩))
  go_ret2
  exact ⟨rfl, by go_grown⟩

theorem walk_MostRegions (p : Int) (w : World) (_ : (Lit.int .i64 p).wf = true) :
    Calls Try.prog 5 #[.int .i64 p] w fun e w' => e = .returned (.bool true) ∧ Below w.heap.size w w' := by
  by_cases h : 3 ≤ p ∧ p ≤ 20
  · exact core_MostRegions p _ _ w (fun W => sMostRegions_yes p W h) (fun W => iMostRegions_yes p W h)
  · exact core_MostRegions p _ _ w (fun W => sMostRegions_no p W h) (fun W => iMostRegions_no p W h)

set_option maxHeartbeats 400000 in
theorem iTriangled_yes (n : Nat) (w : World) (h : 1 ≤ n ∧ n ≤ 18) :
    Calls Try.prog 39 #[.int .i64 ((n : Int) + 2)] w fun e w' => e = .returned (.tuple #[.int .i64 (cat n : Nat), .bool true]) ∧ Below w.heap.size w w' := by
  have hw1 : IntKind.i64.wrap ((n : Int) + 2 - 2) = (n : Int) := by rw [IntKind.wrap_i64]; omega
  go_enter Try.func39, Try.ntmps39
  go_wp2_with (first | (go_at_call 57; (with_reducible refine (isCountedFor_yes _ _ (by omega)).mono ?_); rintro e w1 ⟨rfl, rfl⟩) | (go_at_call 79; (with_reducible refine (countPlane_any n _ h.2).mono ?_); rintro e w1 ⟨rfl, rfl⟩))
  go_ret2
  exact ⟨rfl, by go_grown⟩

set_option maxHeartbeats 400000 in
theorem iTriangled_no (p : Int) (w : World) (h : ¬ (3 ≤ p ∧ p ≤ 20)) :
    Calls Try.prog 39 #[.int .i64 p] w fun e w' => e = .returned (.tuple #[.int .i64 0, .bool false]) ∧ Below w.heap.size w w' := by
  go_enter Try.func39, Try.ntmps39
  go_wp2_with (first | (go_at_call 57; (with_reducible refine (isCountedFor_no _ _ h).mono ?_); rintro e w1 ⟨rfl, rfl⟩))
  go_ret2
  exact ⟨rfl, by go_grown⟩

set_option maxHeartbeats 1000000 in
theorem sTriangled_yes (n : Nat) (w : World) (h : 1 ≤ n ∧ n ≤ 18) :
    Calls Try.prog 38 #[.int .i64 ((n : Int) + 2)] w fun e w' => e = .returned (.tuple #[.int .i64 (cat n : Nat), .bool true]) ∧ Below w.heap.size w w' := by
  obtain ⟨m, hm⟩ : ∃ m, m = 2 * n := ⟨_, rfl⟩
  have hw1 : IntKind.i64.wrap ((n : Int) + 2 - 2) = (n : Int) := by rw [IntKind.wrap_i64]; omega
  have e2 : 2 * (n : Int) = (m : Int) := by omega
  have hc : (waysL m (m / 2 + 1) 0).getD m 0 = (cat n : Int) := by
    rw [waysL_get m _ _ m (Nat.le_refl _), if_pos (by omega), if_pos (by omega), show m / 2 = n by omega]
  have hcd : ∀ W, Calls Try.prog 78 #[.int .i64 (2 * (n : Int))] W (fun e w' => ∃ g cap, e = .returned (.slice (some ⟨g, 0, none⟩) (m + 1) cap) ∧ w'.cell? ⟨g, m, none⟩ = some (.int .i64 (cat n : Nat)) ∧ Below W.heap.size W w') := fun W => by
    rw [e2]
    refine (cdPlane_any m W (by omega)).mono ?_
    rintro e w1 ⟨g, cap, he, hi, hb⟩
    exact ⟨g, cap, he, (hi.1.cellAt m (by rw [waysL_length]; omega)).trans (by rw [hc]), hb⟩
  have HCD := Lib.hid hcd
  have k1 : 2 * (n : Int) < ((m + 1 : Nat) : Int) := by omega
  have k2 : (0 : Int) ≤ 2 * (n : Int) := by omega
  have k3 : (2 * (n : Int)).toNat = m := by omega
  clear hc hcd e2 hm
  go_enter Try.func38, Try.ntmps38
  go_wp2_with (first | (go_at_call 56; (with_reducible refine (l1In_yes _ _ _ _ (by omega)).mono ?_); rintro e w1 ⟨rfl, rfl⟩) | (go_at_call 78; (with_reducible refine (HCD.out _).mono ?_); rintro e w1 ⟨g, cap, rfl, cm, hb⟩))
  go_ret2
  exact ⟨rfl, hb⟩

set_option maxHeartbeats 400000 in
theorem sTriangled_no (p : Int) (w : World) (h : ¬ (3 ≤ p ∧ p ≤ 20)) :
    Calls Try.prog 38 #[.int .i64 p] w fun e w' => e = .returned (.tuple #[.int .i64 0, .bool false]) ∧ Below w.heap.size w w' := by
  go_enter Try.func38, Try.ntmps38
  go_wp2_with (first | (go_at_call 56; (with_reducible refine (l1In_no _ _ _ _ h).mono ?_); rintro e w1 ⟨rfl, rfl⟩))
  go_ret2
  exact ⟨rfl, by go_grown⟩

theorem walk_CountTriangled (p : Int) (w : World) (_ : (Lit.int .i64 p).wf = true) :
    Calls Try.prog 12 #[.int .i64 p] w fun e w' => e = .returned (.bool true) ∧ Below w.heap.size w w' := by
  by_cases h : 3 ≤ p ∧ p ≤ 20
  · obtain ⟨n, rfl⟩ : ∃ n : Nat, p = (n : Int) + 2 := ⟨(p - 2).toNat, by omega⟩
    exact core_CountTriangled _ _ _ w (fun W => sTriangled_yes n W (by omega)) (fun W => iTriangled_yes n W (by omega))
  · exact core_CountTriangled p _ _ w (fun W => sTriangled_no p W h) (fun W => iTriangled_no p W h)
end Go.Proofs.Ytmfbbbnenngehaa
