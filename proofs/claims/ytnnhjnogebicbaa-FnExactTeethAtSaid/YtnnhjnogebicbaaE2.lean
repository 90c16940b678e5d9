/- Gears: turns of a wheel about itself, teeth at a step, stars of gears. -/
import Derived.Test.YtnnhjnogebicbaaE1
import Derived.Test.YtnnhjnogebicbaaB3
import Derived.Deep.RegionHeld3
namespace Go.Proofs.Ytnnhjnogebicbaa
open Go.RowKit
set_option linter.unusedVariables false

set_option maxHeartbeats 400000 in
theorem iSpinsOf_true (r k g a b : Nat) (w : World) (H : Gear r k g a b) :
    Calls Try.prog 19 #[.int .i64 r, .int .i64 k, .bool true] w fun e w' => e = .returned (.tuple #[.int .i64 ((a : Int) - (b : Int)), .bool true]) ∧ Below w.heap.size w w' := by
  have h := H.1
  have b1 : b < a := H.2.2.2.2.2.1
  have a1 : a ≤ 300 := H.2.2.2.2.2.2.1
  go_enter Try.func19, Try.ntmps19
  go_wp2_with (first | (go_at_call 42; (with_reducible refine (isGear_yes _ _ _ h).mono ?_); rintro e w1 ⟨rfl, rfl⟩) | (go_at_call 43; (refine (petalsAndRounds_any _ _ _ _ _ _ H).mono ?_); rintro e w1 ⟨rfl, hb⟩))
  go_ret2
  exact ⟨by simp, hb⟩

set_option maxHeartbeats 400000 in
theorem sSpinsOf_true (r k g a b : Nat) (w : World) (H : Gear r k g a b) :
    Calls Try.prog 18 #[.int .i64 r, .int .i64 k, .bool true] w fun e w' => e = .returned (.tuple #[.int .i64 ((a : Int) - (b : Int)), .bool true]) ∧ Below w.heap.size w w' := by
  obtain ⟨h, hg, g1, g2, b1, c1, a1, e1, e2, e3, e4, HL⟩ := H; clear HL; (have g3 : (1 : Int) ≤ (g : Int) := by omega); (have i1 : (r : Int) ≤ 300 := by omega); (have i2 : (k : Int) ≤ 300 := by omega); (have i3 : 3 ≤ (r : Int) := by omega); (have i4 : 1 ≤ (k : Int) := by omega); (have HG := Lib.hid hg); clear hg
  go_enter Try.func18, Try.ntmps18
  go_wp2_with (first | (go_at_call 40; (with_reducible refine (geGood_yes _ _ _ h).mono ?_); rintro e w1 ⟨rfl, rfl⟩) | (go_at_call 41; (refine (srCommon_any _ _ _ (by omega) (by omega)).mono ?_); rintro e w1 ⟨rfl, hb⟩; rw [HG.out]))
  go_ret2
  exact ⟨by simp [e3], hb⟩

set_option maxHeartbeats 400000 in
theorem iSpinsOf_false (r k g a b : Nat) (w : World) (H : Gear r k g a b) :
    Calls Try.prog 19 #[.int .i64 r, .int .i64 k, .bool false] w fun e w' => e = .returned (.tuple #[.int .i64 ((a : Int) + (b : Int)), .bool true]) ∧ Below w.heap.size w w' := by
  have h := H.1
  have b1 : b < a := H.2.2.2.2.2.1
  have a1 : a ≤ 300 := H.2.2.2.2.2.2.1
  go_enter Try.func19, Try.ntmps19
  go_wp2_with (first | (go_at_call 42; (with_reducible refine (isGear_yes _ _ _ h).mono ?_); rintro e w1 ⟨rfl, rfl⟩) | (go_at_call 43; (refine (petalsAndRounds_any _ _ _ _ _ _ H).mono ?_); rintro e w1 ⟨rfl, hb⟩))
  go_ret2
  exact ⟨by simp, hb⟩

set_option maxHeartbeats 400000 in
theorem sSpinsOf_false (r k g a b : Nat) (w : World) (H : Gear r k g a b) :
    Calls Try.prog 18 #[.int .i64 r, .int .i64 k, .bool false] w fun e w' => e = .returned (.tuple #[.int .i64 ((a : Int) + (b : Int)), .bool true]) ∧ Below w.heap.size w w' := by
  obtain ⟨h, hg, g1, g2, b1, c1, a1, e1, e2, e3, e4, HL⟩ := H; clear HL; (have g3 : (1 : Int) ≤ (g : Int) := by omega); (have i1 : (r : Int) ≤ 300 := by omega); (have i2 : (k : Int) ≤ 300 := by omega); (have i3 : 3 ≤ (r : Int) := by omega); (have i4 : 1 ≤ (k : Int) := by omega); (have HG := Lib.hid hg); clear hg
  go_enter Try.func18, Try.ntmps18
  go_wp2_with (first | (go_at_call 40; (with_reducible refine (geGood_yes _ _ _ h).mono ?_); rintro e w1 ⟨rfl, rfl⟩) | (go_at_call 41; (refine (srCommon_any _ _ _ (by omega) (by omega)).mono ?_); rintro e w1 ⟨rfl, hb⟩; rw [HG.out]))
  go_ret2
  exact ⟨by simp [e4], hb⟩

set_option maxHeartbeats 400000 in
theorem iSpinsOf_no (r k : Int) (x : Bool) (w : World) (h : ¬ ((3 ≤ r ∧ r ≤ 300) ∧ (1 ≤ k ∧ k < r))) :
    Calls Try.prog 19 #[.int .i64 r, .int .i64 k, .bool x] w fun e w' => e = .returned (.tuple #[.int .i64 0, .bool false]) ∧ Below w.heap.size w w' := by
  go_enter Try.func19, Try.ntmps19
  go_wp2_with (first | (go_at_call 42; (with_reducible refine (isGear_no _ _ _ h).mono ?_); rintro e w1 ⟨rfl, rfl⟩))
  go_ret2
  exact ⟨rfl, Below.refl _ _⟩

set_option maxHeartbeats 400000 in
theorem sSpinsOf_no (r k : Int) (x : Bool) (w : World) (h : ¬ ((3 ≤ r ∧ r ≤ 300) ∧ (1 ≤ k ∧ k < r))) :
    Calls Try.prog 18 #[.int .i64 r, .int .i64 k, .bool x] w fun e w' => e = .returned (.tuple #[.int .i64 0, .bool false]) ∧ Below w.heap.size w w' := by
  go_enter Try.func18, Try.ntmps18
  go_wp2_with (first | (go_at_call 40; (with_reducible refine (geGood_no _ _ _ h).mono ?_); rintro e w1 ⟨rfl, rfl⟩))
  go_ret2
  exact ⟨rfl, Below.refl _ _⟩

theorem walk_SpinsOf (r k : Int) (x : Bool) (w : World) (_ : (Lit.int .i64 r).wf = true) (_ : (Lit.int .i64 k).wf = true) :
    Calls Try.prog 5 #[.int .i64 r, .int .i64 k, .bool x] w fun e w' => e = .returned (.bool true) ∧ Below w.heap.size w w' := by
  by_cases h : (3 ≤ r ∧ r ≤ 300) ∧ (1 ≤ k ∧ k < r)
  · obtain ⟨r, k, g, a, b, rfl, rfl, H⟩ := gear_of r k h
    cases x
    · go_enter Try.func5, Try.ntmps5
      go_wp2_with (first | (go_at_call 18; (with_reducible refine (sSpinsOf_false _ _ _ _ _ _ H).mono ?_); rintro e w1 ⟨rfl, hb1⟩) | (go_at_call 19; (with_reducible refine (iSpinsOf_false _ _ _ _ _ _ H).mono ?_); rintro e w2 ⟨rfl, hb2⟩))
      go_ret
      exact ⟨rfl, hb1.trans (hb2.mono hb1.size)⟩
    · go_enter Try.func5, Try.ntmps5
      go_wp2_with (first | (go_at_call 18; (with_reducible refine (sSpinsOf_true _ _ _ _ _ _ H).mono ?_); rintro e w1 ⟨rfl, hb1⟩) | (go_at_call 19; (with_reducible refine (iSpinsOf_true _ _ _ _ _ _ H).mono ?_); rintro e w2 ⟨rfl, hb2⟩))
      go_ret
      exact ⟨rfl, hb1.trans (hb2.mono hb1.size)⟩
  · go_enter Try.func5, Try.ntmps5
    go_wp2_with (first | (go_at_call 18; (with_reducible refine (sSpinsOf_no _ _ _ _ h).mono ?_); rintro e w1 ⟨rfl, hb1⟩) | (go_at_call 19; (with_reducible refine (iSpinsOf_no _ _ _ _ h).mono ?_); rintro e w2 ⟨rfl, hb2⟩))
    go_ret
    exact ⟨rfl, hb1.trans (hb2.mono hb1.size)⟩

/-! TeethAt -/
set_option maxHeartbeats 400000 in
theorem areSteps_yes (n : Int) (w : World) (h1 : 0 ≤ n ∧ n ≤ 1000000) :
    Calls Try.prog 45 #[.int .i64 n] w fun e w' => e = .returned (.bool true) ∧ w = w' := by
  obtain ⟨h1, h2⟩ := h1
  go_enter Try.func45, Try.ntmps45
  go_wp2
  go_ret
  exact ⟨rfl, rfl⟩

set_option maxHeartbeats 400000 in
theorem areSteps_no (n : Int) (w : World) (h : ¬ (0 ≤ n ∧ n ≤ 1000000)) :
    Calls Try.prog 45 #[.int .i64 n] w fun e w' => e = .returned (.bool false) ∧ w = w' := by
  by_cases h1 : 0 ≤ n
  · have h2 : ¬ n ≤ 1000000 := by omega
    clear h
    go_enter Try.func45, Try.ntmps45
    go_wp2
    go_ret
    exact ⟨rfl, rfl⟩
  · clear h
    go_enter Try.func45, Try.ntmps45
    go_wp2
    go_ret
    exact ⟨rfl, rfl⟩

set_option maxHeartbeats 400000 in
theorem iTeethAt_yes (r k n : Int) (w : World) (h : (3 ≤ r ∧ r ≤ 300) ∧ (1 ≤ k ∧ k < r)) (hn : 0 ≤ n ∧ n ≤ 1000000) :
    Calls Try.prog 21 #[.int .i64 r, .int .i64 k, .int .i64 n] w fun e w' => e = .returned (.tuple #[.int .i64 (n % r), .int .i64 (n % k), .bool true]) ∧ Below w.heap.size w w' := by
  have h1 : 3 ≤ r := h.1.1
  have h2 : 1 ≤ k := h.2.1
  have n1 : 0 ≤ n := hn.1
  have n2 : n ≤ 1000000 := hn.2
  go_enter Try.func21, Try.ntmps21
  go_wp2_with (first | (go_at_call 42; (with_reducible refine (isGear_yes _ _ _ h).mono ?_); rintro e w1 ⟨rfl, rfl⟩) | (go_at_call 45; (with_reducible refine (areSteps_yes _ _ hn).mono ?_); rintro e w1 ⟨rfl, rfl⟩))
  go_quiet (fail)
  go_wp2
  go_ret3
  exact ⟨by simp, bdn (Below.refl _ _) _⟩

set_option maxHeartbeats 400000 in
theorem iTeethAt_no (r k n : Int) (w : World) (h : ¬ (((3 ≤ r ∧ r ≤ 300) ∧ (1 ≤ k ∧ k < r)) ∧ (0 ≤ n ∧ n ≤ 1000000))) :
    Calls Try.prog 21 #[.int .i64 r, .int .i64 k, .int .i64 n] w fun e w' => e = .returned (.tuple #[.int .i64 0, .int .i64 0, .bool false]) ∧ w = w' := by
  by_cases h1 : (3 ≤ r ∧ r ≤ 300) ∧ (1 ≤ k ∧ k < r)
  · have hn : ¬ (0 ≤ n ∧ n ≤ 1000000) := fun g => h ⟨h1, g⟩
    clear h
    go_enter Try.func21, Try.ntmps21
    go_wp2_with (first | (go_at_call 42; (with_reducible refine (isGear_yes _ _ _ h1).mono ?_); rintro e w1 ⟨rfl, rfl⟩) | (go_at_call 45; (with_reducible refine (areSteps_no _ _ hn).mono ?_); rintro e w1 ⟨rfl, rfl⟩))
    go_ret3
    exact ⟨rfl, rfl⟩
  · clear h
    go_enter Try.func21, Try.ntmps21
    go_wp2_with (first | (go_at_call 42; (with_reducible refine (isGear_no _ _ _ h1).mono ?_); rintro e w1 ⟨rfl, rfl⟩))
    go_ret3
    exact ⟨rfl, rfl⟩

set_option maxHeartbeats 400000 in
theorem sTeethAt_yes (r k n : Int) (w : World) (h : (3 ≤ r ∧ r ≤ 300) ∧ (1 ≤ k ∧ k < r)) (hn : 0 ≤ n ∧ n ≤ 1000000) :
    Calls Try.prog 20 #[.int .i64 r, .int .i64 k, .int .i64 n] w fun e w' => e = .returned (.tuple #[.int .i64 (n % r), .int .i64 (n % k), .bool true]) ∧ Below w.heap.size w w' := by
  have h1 : 3 ≤ r := h.1.1
  have h2 : 1 ≤ k := h.2.1
  have n1 : 0 ≤ n := hn.1
  have n2 : n ≤ 1000000 := hn.2
  go_enter Try.func20, Try.ntmps20
  go_wp2_with (first | (go_at_call 40; (with_reducible refine (geGood_yes _ _ _ h).mono ?_); rintro e w1 ⟨rfl, rfl⟩) | (go_at_call 44; (with_reducible refine (l1In_yes _ _ _ _ hn).mono ?_); rintro e w1 ⟨rfl, rfl⟩))
  go_quiet (fail)
  go_wp2
  go_ret3
  exact ⟨by simp, bdn (Below.refl _ _) _⟩

set_option maxHeartbeats 400000 in
theorem sTeethAt_no (r k n : Int) (w : World) (h : ¬ (((3 ≤ r ∧ r ≤ 300) ∧ (1 ≤ k ∧ k < r)) ∧ (0 ≤ n ∧ n ≤ 1000000))) :
    Calls Try.prog 20 #[.int .i64 r, .int .i64 k, .int .i64 n] w fun e w' => e = .returned (.tuple #[.int .i64 0, .int .i64 0, .bool false]) ∧ w = w' := by
  by_cases h1 : (3 ≤ r ∧ r ≤ 300) ∧ (1 ≤ k ∧ k < r)
  · have hn : ¬ (0 ≤ n ∧ n ≤ 1000000) := fun g => h ⟨h1, g⟩
    clear h
    go_enter Try.func20, Try.ntmps20
    go_wp2_with (first | (go_at_call 40; (with_reducible refine (geGood_yes _ _ _ h1).mono ?_); rintro e w1 ⟨rfl, rfl⟩) | (go_at_call 44; (with_reducible refine (l1In_no _ _ _ _ hn).mono ?_); rintro e w1 ⟨rfl, rfl⟩))
    go_ret3
    exact ⟨rfl, rfl⟩
  · clear h
    go_enter Try.func20, Try.ntmps20
    go_wp2_with (first | (go_at_call 40; (with_reducible refine (geGood_no _ _ _ h1).mono ?_); rintro e w1 ⟨rfl, rfl⟩))
    go_ret3
    exact ⟨rfl, rfl⟩

theorem walk_TeethAt (r k n : Int) (w : World) (_ : (Lit.int .i64 r).wf = true) (_ : (Lit.int .i64 k).wf = true) (_ : (Lit.int .i64 n).wf = true) :
    Calls Try.prog 6 #[.int .i64 r, .int .i64 k, .int .i64 n] w fun e w' => e = .returned (.bool true) ∧ Below w.heap.size w w' := by
  by_cases h : ((3 ≤ r ∧ r ≤ 300) ∧ (1 ≤ k ∧ k < r)) ∧ (0 ≤ n ∧ n ≤ 1000000)
  · go_enter Try.func6, Try.ntmps6
    go_wp2_with (first | (go_at_call 20; (with_reducible refine (sTeethAt_yes _ _ _ _ h.1 h.2).mono ?_); rintro e w1 ⟨rfl, hb1⟩) | (go_at_call 21; (with_reducible refine (iTeethAt_yes _ _ _ _ h.1 h.2).mono ?_); rintro e w2 ⟨rfl, hb2⟩))
    go_ret
    exact ⟨rfl, hb1.trans (hb2.mono hb1.size)⟩
  · go_enter Try.func6, Try.ntmps6
    go_wp2_with (first | (go_at_call 20; (with_reducible refine (sTeethAt_no _ _ _ _ h).mono ?_); rintro e w1 ⟨rfl, rfl⟩) | (go_at_call 21; (with_reducible refine (iTeethAt_no _ _ _ _ h).mono ?_); rintro e w1 ⟨rfl, rfl⟩))
    go_ret
    exact ⟨rfl, Below.refl _ _⟩

/-! StarOfGears -/
set_option maxHeartbeats 400000 in
theorem iStarOfGears_yes (r k g a b : Nat) (w : World) (H : Gear r k g a b) (hs : 3 ≤ a ∧ a ≤ 60) :
    Calls Try.prog 23 #[.int .i64 r, .int .i64 k] w fun e w' => e = .returned (.tuple #[.agg #[.int .i64 a, .int .i64 b], .bool true]) ∧ Below w.heap.size w w' := by
  have h := H.1
  have b1 : b < a := H.2.2.2.2.2.1
  have b2 : 1 ≤ b := H.2.2.2.2.1
  have hst : 3 ≤ (a : Int) ∧ (a : Int) ≤ 60 ∧ 1 ≤ (b : Int) ∧ (b : Int) < a := by omega
  go_enter Try.func23, Try.ntmps23
  go_wp2_with (first | (go_at_call 42; (with_reducible refine (isGear_yes _ _ _ h).mono ?_); rintro e w1 ⟨rfl, rfl⟩) | (go_at_call 43; (refine (petalsAndRounds_any _ _ _ _ _ _ H).mono ?_); rintro e w1 ⟨rfl, hb⟩; (have c0 : w1.cell? ⟨w.heap.size, 0, none⟩ = some (.int .i64 0) := cellB hb (by go_simp)); (have c1 : w1.cell? ⟨w.heap.size, 1, none⟩ = some (.int .i64 0) := cellB hb (by go_simp)); (have f0 : w1.frozen? ⟨w.heap.size, 0, none⟩ = false := (hb.frozen (p := ⟨w.heap.size, 0, none⟩) (by simp)).trans (by go_simp)); (have f1 : w1.frozen? ⟨w.heap.size, 1, none⟩ = false := (hb.frozen (p := ⟨w.heap.size, 1, none⟩) (by simp)).trans (by go_simp)); (have hz : w.heap.size < w1.heap.size := by have := hb.size; simp at this; omega); (have hB : Below w.heap.size w w1 := Below.trans (by go_grown) (hb.mono (by simp))); clear hb) | (go_at_call 47; (refine (isStar_yes _ _ _ hst).mono ?_); rintro e w2 ⟨rfl, hb2⟩; (have d0 : w2.cell? ⟨w.heap.size, 0, none⟩ = some (.int .i64 0) := cellB hb2 (by go_simp)); (have d1 : w2.cell? ⟨w.heap.size, 1, none⟩ = some (.int .i64 0) := cellB hb2 (by go_simp)); (have d2 : w2.cell? ⟨w1.heap.size, 0, none⟩ = some (.int .i64 a) := cellB hb2 (by go_simp)); (have d3 : w2.cell? ⟨w1.heap.size, 1, none⟩ = some (.int .i64 b) := cellB hb2 (by go_simp)); (have f2 : w2.frozen? ⟨w.heap.size, 0, none⟩ = false := (hb2.frozen (p := ⟨w.heap.size, 0, none⟩) (by simp; omega)).trans (by go_simp)); (have f3 : w2.frozen? ⟨w.heap.size, 1, none⟩ = false := (hb2.frozen (p := ⟨w.heap.size, 1, none⟩) (by simp; omega)).trans (by go_simp)); (have hB2 : Below w.heap.size w w2 := by (refine Below.trans ?_ (hb2.mono (by simp; omega)); go_grown)); (have hz2 : w1.heap.size < w2.heap.size := by have := hb2.size; simp at this; omega); clear hb2))
  exact bodyPost_ret (v := .tuple #[.agg #[.int .i64 (a : Int), .int .i64 (b : Int)], .bool true]) (by simp [results, Try.results23, go_sem, *]) rfl ⟨rfl, by go_grown⟩

set_option maxHeartbeats 400000 in
theorem iStarOfGears_bad (r k g a b : Nat) (w : World) (H : Gear r k g a b) (hs : ¬ (3 ≤ a ∧ a ≤ 60)) :
    Calls Try.prog 23 #[.int .i64 r, .int .i64 k] w fun e w' => e = .returned (.tuple #[.agg #[.int .i64 0, .int .i64 0], .bool false]) ∧ Below w.heap.size w w' := by
  have h := H.1
  have hst : ¬ (3 ≤ (a : Int) ∧ (a : Int) ≤ 60 ∧ 1 ≤ (b : Int) ∧ (b : Int) < a) := by omega
  go_enter Try.func23, Try.ntmps23
  go_wp2_with (first | (go_at_call 42; (with_reducible refine (isGear_yes _ _ _ h).mono ?_); rintro e w1 ⟨rfl, rfl⟩) | (go_at_call 43; (refine (petalsAndRounds_any _ _ _ _ _ _ H).mono ?_); rintro e w1 ⟨rfl, hb⟩; (have c0 : w1.cell? ⟨w.heap.size, 0, none⟩ = some (.int .i64 0) := cellB hb (by go_simp)); (have c1 : w1.cell? ⟨w.heap.size, 1, none⟩ = some (.int .i64 0) := cellB hb (by go_simp)); (have f0 : w1.frozen? ⟨w.heap.size, 0, none⟩ = false := (hb.frozen (p := ⟨w.heap.size, 0, none⟩) (by simp)).trans (by go_simp)); (have f1 : w1.frozen? ⟨w.heap.size, 1, none⟩ = false := (hb.frozen (p := ⟨w.heap.size, 1, none⟩) (by simp)).trans (by go_simp)); (have hz : w.heap.size < w1.heap.size := by have := hb.size; simp at this; omega); (have hB : Below w.heap.size w w1 := Below.trans (by go_grown) (hb.mono (by simp))); clear hb) | (go_at_call 47; (refine (isStar_no _ _ _ hst).mono ?_); rintro e w2 ⟨rfl, hb2⟩; (have d0 : w2.cell? ⟨w.heap.size, 0, none⟩ = some (.int .i64 0) := cellB hb2 (by go_simp)); (have d1 : w2.cell? ⟨w.heap.size, 1, none⟩ = some (.int .i64 0) := cellB hb2 (by go_simp)); (have d2 : w2.cell? ⟨w1.heap.size, 0, none⟩ = some (.int .i64 a) := cellB hb2 (by go_simp)); (have d3 : w2.cell? ⟨w1.heap.size, 1, none⟩ = some (.int .i64 b) := cellB hb2 (by go_simp)); (have f2 : w2.frozen? ⟨w.heap.size, 0, none⟩ = false := (hb2.frozen (p := ⟨w.heap.size, 0, none⟩) (by simp; omega)).trans (by go_simp)); (have f3 : w2.frozen? ⟨w.heap.size, 1, none⟩ = false := (hb2.frozen (p := ⟨w.heap.size, 1, none⟩) (by simp; omega)).trans (by go_simp)); (have hB2 : Below w.heap.size w w2 := by (refine Below.trans ?_ (hb2.mono (by simp; omega)); go_grown)); (have hz2 : w1.heap.size < w2.heap.size := by have := hb2.size; simp at this; omega); clear hb2))
  exact bodyPost_ret (v := .tuple #[.agg #[.int .i64 0, .int .i64 0], .bool false]) (by simp [results, Try.results23, go_sem, *]) rfl ⟨rfl, by go_grown⟩

set_option maxHeartbeats 400000 in
theorem sStarOfGears_yes (r k g a b : Nat) (w : World) (H : Gear r k g a b) (hs : 3 ≤ a ∧ a ≤ 60) :
    Calls Try.prog 22 #[.int .i64 r, .int .i64 k] w fun e w' => e = .returned (.tuple #[.agg #[.int .i64 a, .int .i64 b], .bool true]) ∧ Below w.heap.size w w' := by
  have b3 : b < a := H.2.2.2.2.2.1
  have b2 : 1 ≤ b := H.2.2.2.2.1
  have hst : 3 ≤ (a : Int) ∧ (a : Int) ≤ 60 ∧ 1 ≤ (b : Int) ∧ (b : Int) < a := by omega
  obtain ⟨h, hg, g1, g2, b1, c1, a1, e1, e2, e3, e4, HL⟩ := H; clear HL; (have g3 : (1 : Int) ≤ (g : Int) := by omega); (have i1 : (r : Int) ≤ 300 := by omega); (have i2 : (k : Int) ≤ 300 := by omega); (have i3 : 3 ≤ (r : Int) := by omega); (have i4 : 1 ≤ (k : Int) := by omega); (have HG := Lib.hid hg); clear hg
  have g0 : ¬ g = 0 := by omega
  have x1 : IntKind.i64.wrap (a : Int) = a := by rw [IntKind.wrap_i64] <;> omega
  have x2 : IntKind.i64.wrap (b : Int) = b := by rw [IntKind.wrap_i64] <;> omega
  go_enter Try.func22, Try.ntmps22
  go_wp2_with (first | (go_at_call 40; (with_reducible refine (geGood_yes _ _ _ h).mono ?_); rintro e w1 ⟨rfl, rfl⟩) | (go_at_call 41; (refine (srCommon_any _ _ _ (by omega) (by omega)).mono ?_); rintro e w1 ⟨rfl, hb⟩; rw [HG.out]; (have c0 : w1.cell? ⟨w.heap.size, 0, none⟩ = some (.int .i64 0) := cellB hb (by go_simp)); (have c1 : w1.cell? ⟨w.heap.size, 1, none⟩ = some (.int .i64 0) := cellB hb (by go_simp)); (have f0 : w1.frozen? ⟨w.heap.size, 0, none⟩ = false := (hb.frozen (p := ⟨w.heap.size, 0, none⟩) (by simp)).trans (by go_simp)); (have f1 : w1.frozen? ⟨w.heap.size, 1, none⟩ = false := (hb.frozen (p := ⟨w.heap.size, 1, none⟩) (by simp)).trans (by go_simp)); (have hz : w.heap.size < w1.heap.size := by have := hb.size; simp at this; omega); (have hB : Below w.heap.size w w1 := Below.trans (by go_grown) (hb.mono (by simp))); clear hb))
  go_region_held3 (fun w' => w'.cell? ⟨w.heap.size, 0, none⟩ = some (.int .i64 0) ∧ w'.cell? ⟨w.heap.size, 1, none⟩ = some (.int .i64 0)) (go_keep) (fail)
  go_wp2_with (first | (go_at_call 46; (refine (srGood_yes _ _ _ hst).mono ?_); rintro e w2 ⟨rfl, hb2⟩; (have d0 : w2.cell? ⟨w.heap.size, 0, none⟩ = some (.int .i64 0) := cellB hb2 (by go_simp)); (have d1 : w2.cell? ⟨w.heap.size, 1, none⟩ = some (.int .i64 0) := cellB hb2 (by go_simp)); (have d2 : w2.cell? ⟨w1.heap.size, 0, none⟩ = some (.int .i64 a) := cellB hb2 (by go_simp)); (have d3 : w2.cell? ⟨w1.heap.size, 1, none⟩ = some (.int .i64 b) := cellB hb2 (by go_simp)); (have f2 : w2.frozen? ⟨w.heap.size, 0, none⟩ = false := (hb2.frozen (p := ⟨w.heap.size, 0, none⟩) (by simp; omega)).trans (by go_simp)); (have f3 : w2.frozen? ⟨w.heap.size, 1, none⟩ = false := (hb2.frozen (p := ⟨w.heap.size, 1, none⟩) (by simp; omega)).trans (by go_simp)); (have hB2 : Below w.heap.size w w2 := by (refine Below.trans ?_ (hb2.mono (by simp; omega)); go_grown)); (have hz2 : w1.heap.size < w2.heap.size := by have := hb2.size; simp at this; omega); clear hb2))
  exact bodyPost_ret (v := .tuple #[.agg #[.int .i64 (a : Int), .int .i64 (b : Int)], .bool true]) (by simp [results, Try.results22, go_sem, *]) rfl ⟨rfl, by go_grown⟩

set_option maxHeartbeats 400000 in
theorem sStarOfGears_bad (r k g a b : Nat) (w : World) (H : Gear r k g a b) (hs : ¬ (3 ≤ a ∧ a ≤ 60)) :
    Calls Try.prog 22 #[.int .i64 r, .int .i64 k] w fun e w' => e = .returned (.tuple #[.agg #[.int .i64 0, .int .i64 0], .bool false]) ∧ Below w.heap.size w w' := by
  have hst : ¬ (3 ≤ (a : Int) ∧ (a : Int) ≤ 60 ∧ 1 ≤ (b : Int) ∧ (b : Int) < a) := by omega
  obtain ⟨h, hg, g1, g2, b1, c1, a1, e1, e2, e3, e4, HL⟩ := H; clear HL; (have g3 : (1 : Int) ≤ (g : Int) := by omega); (have i1 : (r : Int) ≤ 300 := by omega); (have i2 : (k : Int) ≤ 300 := by omega); (have i3 : 3 ≤ (r : Int) := by omega); (have i4 : 1 ≤ (k : Int) := by omega); (have HG := Lib.hid hg); clear hg
  have g0 : ¬ g = 0 := by omega
  have x1 : IntKind.i64.wrap (a : Int) = a := by rw [IntKind.wrap_i64] <;> omega
  have x2 : IntKind.i64.wrap (b : Int) = b := by rw [IntKind.wrap_i64] <;> omega
  go_enter Try.func22, Try.ntmps22
  go_wp2_with (first | (go_at_call 40; (with_reducible refine (geGood_yes _ _ _ h).mono ?_); rintro e w1 ⟨rfl, rfl⟩) | (go_at_call 41; (refine (srCommon_any _ _ _ (by omega) (by omega)).mono ?_); rintro e w1 ⟨rfl, hb⟩; rw [HG.out]; (have c0 : w1.cell? ⟨w.heap.size, 0, none⟩ = some (.int .i64 0) := cellB hb (by go_simp)); (have c1 : w1.cell? ⟨w.heap.size, 1, none⟩ = some (.int .i64 0) := cellB hb (by go_simp)); (have f0 : w1.frozen? ⟨w.heap.size, 0, none⟩ = false := (hb.frozen (p := ⟨w.heap.size, 0, none⟩) (by simp)).trans (by go_simp)); (have f1 : w1.frozen? ⟨w.heap.size, 1, none⟩ = false := (hb.frozen (p := ⟨w.heap.size, 1, none⟩) (by simp)).trans (by go_simp)); (have hz : w.heap.size < w1.heap.size := by have := hb.size; simp at this; omega); (have hB : Below w.heap.size w w1 := Below.trans (by go_grown) (hb.mono (by simp))); clear hb))
  go_region_held3 (fun w' => w'.cell? ⟨w.heap.size, 0, none⟩ = some (.int .i64 0) ∧ w'.cell? ⟨w.heap.size, 1, none⟩ = some (.int .i64 0)) (go_keep) (fail)
  go_wp2_with (first | (go_at_call 46; (refine (srGood_no _ _ _ hst).mono ?_); rintro e w2 ⟨rfl, hb2⟩; (have d0 : w2.cell? ⟨w.heap.size, 0, none⟩ = some (.int .i64 0) := cellB hb2 (by go_simp)); (have d1 : w2.cell? ⟨w.heap.size, 1, none⟩ = some (.int .i64 0) := cellB hb2 (by go_simp)); (have d2 : w2.cell? ⟨w1.heap.size, 0, none⟩ = some (.int .i64 a) := cellB hb2 (by go_simp)); (have d3 : w2.cell? ⟨w1.heap.size, 1, none⟩ = some (.int .i64 b) := cellB hb2 (by go_simp)); (have f2 : w2.frozen? ⟨w.heap.size, 0, none⟩ = false := (hb2.frozen (p := ⟨w.heap.size, 0, none⟩) (by simp; omega)).trans (by go_simp)); (have f3 : w2.frozen? ⟨w.heap.size, 1, none⟩ = false := (hb2.frozen (p := ⟨w.heap.size, 1, none⟩) (by simp; omega)).trans (by go_simp)); (have hB2 : Below w.heap.size w w2 := by (refine Below.trans ?_ (hb2.mono (by simp; omega)); go_grown)); (have hz2 : w1.heap.size < w2.heap.size := by have := hb2.size; simp at this; omega); clear hb2))
  exact bodyPost_ret (v := .tuple #[.agg #[.int .i64 0, .int .i64 0], .bool false]) (by simp [results, Try.results22, go_sem, *]) rfl ⟨rfl, by go_grown⟩

set_option maxHeartbeats 400000 in
theorem iStarOfGears_no (r k : Int) (w : World) (h : ¬ ((3 ≤ r ∧ r ≤ 300) ∧ (1 ≤ k ∧ k < r))) :
    Calls Try.prog 23 #[.int .i64 r, .int .i64 k] w fun e w' => e = .returned (.tuple #[.agg #[.int .i64 0, .int .i64 0], .bool false]) ∧ Below w.heap.size w w' := by
  go_enter Try.func23, Try.ntmps23
  go_wp2_with (first | (go_at_call 42; (with_reducible refine (isGear_no _ _ _ h).mono ?_); rintro e w1 ⟨rfl, rfl⟩))
  exact bodyPost_ret (v := .tuple #[.agg #[.int .i64 0, .int .i64 0], .bool false]) (by simp [results, Try.results23, go_sem]) rfl ⟨rfl, by go_grown⟩

set_option maxHeartbeats 400000 in
theorem sStarOfGears_no (r k : Int) (w : World) (h : ¬ ((3 ≤ r ∧ r ≤ 300) ∧ (1 ≤ k ∧ k < r))) :
    Calls Try.prog 22 #[.int .i64 r, .int .i64 k] w fun e w' => e = .returned (.tuple #[.agg #[.int .i64 0, .int .i64 0], .bool false]) ∧ Below w.heap.size w w' := by
  go_enter Try.func22, Try.ntmps22
  go_wp2_with (first | (go_at_call 40; (with_reducible refine (geGood_no _ _ _ h).mono ?_); rintro e w1 ⟨rfl, rfl⟩))
  exact bodyPost_ret (v := .tuple #[.agg #[.int .i64 0, .int .i64 0], .bool false]) (by simp [results, Try.results22, go_sem]) rfl ⟨rfl, by go_grown⟩

set_option maxHeartbeats 400000 in
theorem eqStar_same (p s : Int) (w : World) :
    Calls Try.prog 24 #[.agg #[.int .i64 p, .int .i64 s], .agg #[.int .i64 p, .int .i64 s]] w fun e w' => e = .returned (.bool true) ∧ Below w.heap.size w w' := by
  go_enter Try.func24, Try.ntmps24
  go_wp2
  go_ret
  exact ⟨rfl, by first | exact Below.refl _ _ | go_grown⟩

set_option maxHeartbeats 400000 in
theorem core_StarOfGears (r k : Int) (p s : Int) (b : Bool) (w : World)
    (hs : ∀ w : World, Calls Try.prog 22 #[.int .i64 r, .int .i64 k] w fun e w' => e = .returned (.tuple #[.agg #[.int .i64 p, .int .i64 s], .bool b]) ∧ Below w.heap.size w w')
    (hi : ∀ w : World, Calls Try.prog 23 #[.int .i64 r, .int .i64 k] w fun e w' => e = .returned (.tuple #[.agg #[.int .i64 p, .int .i64 s], .bool b]) ∧ Below w.heap.size w w') :
    Calls Try.prog 7 #[.int .i64 r, .int .i64 k] w fun e w' => e = .returned (.bool true) ∧ Below w.heap.size w w' := by
  have HS := Lib.hid hs
  have HI := Lib.hid hi
  clear hs hi
  go_enter Try.func7, Try.ntmps7
  go_wp2_with (first | (go_at_call 22; (refine (HS.out _).mono ?_); rintro e w1 ⟨rfl, hb1⟩) | (go_at_call 23; (refine (HI.out _).mono ?_); rintro e w2 ⟨rfl, hb2⟩; (have d0 : w2.cell? ⟨w1.heap.size, 0, none⟩ = some (.int .i64 p) := cellB hb2 (by go_simp)); (have d1 : w2.cell? ⟨w1.heap.size, 1, none⟩ = some (.int .i64 s) := cellB hb2 (by go_simp)); (have hz1 := hb1.size); (have hz2 : w1.heap.size < w2.heap.size := by have := hb2.size; simp at this; omega); (have hB2 : Below w.heap.size w w2 := hb1.trans (Below.trans (show Below w.heap.size w1 (w1.alloc _) from by go_grown) (hb2.mono (by simp; omega)))); clear hb2) | (go_at_call 24; go_loud ((refine (eqStar_same _ _ _).mono ?_); rintro e w3 ⟨rfl, hb3⟩; (have hB3 : Below w.heap.size w w3 := hB2.trans (Below.trans (show Below w.heap.size w2 (w2.alloc _) from by go_grown) (hb3.mono (by simp; omega)))))))
  go_ret
  exact ⟨rfl, hB3⟩

theorem walk_StarOfGears (r k : Int) (w : World) (_ : (Lit.int .i64 r).wf = true) (_ : (Lit.int .i64 k).wf = true) :
    Calls Try.prog 7 #[.int .i64 r, .int .i64 k] w fun e w' => e = .returned (.bool true) ∧ Below w.heap.size w w' := by
  by_cases h : (3 ≤ r ∧ r ≤ 300) ∧ (1 ≤ k ∧ k < r)
  · obtain ⟨r, k, g, a, b, rfl, rfl, H⟩ := gear_of r k h
    by_cases hs : 3 ≤ a ∧ a ≤ 60
    · exact core_StarOfGears _ _ _ _ _ w (fun W => sStarOfGears_yes r k g a b W H hs) (fun W => iStarOfGears_yes r k g a b W H hs)
    · exact core_StarOfGears _ _ _ _ _ w (fun W => sStarOfGears_bad r k g a b W H hs) (fun W => iStarOfGears_bad r k g a b W H hs)
  · exact core_StarOfGears _ _ _ _ _ w (fun W => sStarOfGears_no _ _ W h) (fun W => iStarOfGears_no _ _ W h)
end Go.Proofs.Ytnnhjnogebicbaa
