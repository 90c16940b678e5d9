/- Solutions, CountSolutions, IsSolved: both sides, the laws. -/
import Derived.Test.YtpliaenpencocaaDoorXC
import Derived.Test.YtpliaenpencocaaDoorVS
namespace Go.Proofs.YtpliaenpencocaaDoor
open Go.RowKit
set_option linter.unusedVariables false

set_option maxHeartbeats 400000 in
theorem countFitting_any (u : Value) (xs : List Tri) (w : World) (hx : SrcT w u xs) (hP : puzzleP xs) : Calls Tryd.prog 68 #[u] w fun e w' => e = .returned (.int .i64 (((solZ xs).length : Nat) : Int)) ∧ Below w.heap.size w w' := by
  have HX := Lib.hid hx
  have HP := Lib.hid hP
  have hl := solZ_length xs
  obtain ⟨a0, cap, g, off, rfl, _⟩ := hx.form
  clear hx hP
  go_enter Tryd.func68, Tryd.ntmps68
  go_wp2_with (first | (go_at_call 65; (refine (solutionsOf_any _ xs _ HX.out HP.out).mono ?_); rintro e w1 ⟨v, rfl, hI, hb1⟩; (obtain ⟨a1, c1, g1, rfl, _⟩ := hI.pairs.view)))
  go_ret
  exact ⟨rfl, hb1⟩

set_option maxHeartbeats 400000 in
theorem areSolved_any (u : Value) (xs : List Tri) (w : World) (hx : SrcT w u xs) (hP : puzzleP xs) (t : Bool) (ht : ((((solZ xs).length : Nat) : Int) == 1) = t) : Calls Tryd.prog 74 #[u] w fun e w' => e = .returned (.bool t) ∧ Below w.heap.size w w' := by
  have HX := Lib.hid hx
  have HP := Lib.hid hP
  have HT := Lib.hid ht
  obtain ⟨a0, cap, g, off, rfl, _⟩ := hx.form
  clear hx hP ht
  go_enter Tryd.func74, Tryd.ntmps74
  go_wp2_with (first | (go_at_call 68; (refine (countFitting_any _ xs _ HX.out HP.out).mono ?_); rintro e w1 ⟨rfl, hb1⟩))
  go_ret
  exact ⟨by rw [← HT.out]; rfl, hb1⟩

set_option maxHeartbeats 400000 in
theorem pzSolved_any (u : Value) (xs : List Tri) (w : World) (hx : SrcT w u xs) (hP : puzzleP xs) (t : Bool) (ht : ((((solZ xs).length : Nat) : Int) == 1) = t) : Calls Tryd.prog 72 #[u] w fun e w' => e = .returned (.bool t) ∧ Below w.heap.size w w' := by
  have HX := Lib.hid hx
  have HP := Lib.hid hP
  have HT := Lib.hid ht
  have hl := solZ_length xs
  obtain ⟨a0, cap, g, off, rfl, _⟩ := hx.form
  clear hx hP ht
  go_enter Tryd.func72, Tryd.ntmps72
  go_wp2_with (first | (go_at_call 63; (refine (pzAll_any _ xs _ HX.out HP.out).mono ?_); rintro e w1 ⟨v, rfl, hI, hb1⟩; (obtain ⟨a1, c1, g1, rfl, _⟩ := hI.pairs.view)))
  go_ret
  exact ⟨by rw [← HT.out]; rfl, hb1⟩

set_option maxHeartbeats 400000 in
theorem toldS_no (u : Value) (xs : List Tri) (w : World) (hx : SrcT w u xs) (f : Value) (hP : ¬ puzzleP xs) (hW : ClueW w) : Calls Tryd.prog 64 #[.agg #[u], f] w ((Gives (PairsIn 43) w [] false)) := by
  have HX := Lib.hid hx
  have HW := Lib.hid hW
  have HP := Lib.hid (show decide (puzzleP xs) = false from decide_eq_false hP)
  obtain ⟨a0, cap, g, off, rfl, _⟩ := hx.form
  clear hx hW
  go_enter Tryd.func64, Tryd.ntmps64
  go_wp2_with (first | (go_at_call 21; (refine (iIsPuzzle_any _ xs false _ (HX.out.later (by go_grown)) HP.out (HW.out.later (by go_grown))).mono ?_); rintro e w1 ⟨rfl, hb1⟩; (have c0 : w1.cell? ⟨w.heap.size, 0, none⟩ = some (.slice a0 xs.length cap) := cellB hb1 (by go_simp)); (have hB1 : Below w.heap.size w w1 := Below.trans (by go_grown) (hb1.mono (by first | omega | (simp; done) | (simp; omega)))); have hz1 := hB1.size))
  go_ret2
  exact ⟨_, rfl, PairsIn.nil _ _ _ _, hB1⟩

set_option maxHeartbeats 400000 in
theorem toldI_no (u : Value) (xs : List Tri) (w : World) (hx : SrcT w u xs) (f : Value) (hP : ¬ puzzleP xs) (hW : ClueW w) : Calls Tryd.prog 67 #[.agg #[u], f] w (fun e w' => e = .returned (.tuple #[.int .i64 (0), .bool false]) ∧ Below w.heap.size w w') := by
  have HX := Lib.hid hx
  have HW := Lib.hid hW
  have HP := Lib.hid (show decide (puzzleP xs) = false from decide_eq_false hP)
  obtain ⟨a0, cap, g, off, rfl, _⟩ := hx.form
  clear hx hW
  go_enter Tryd.func67, Tryd.ntmps67
  go_wp2_with (first | (go_at_call 21; (refine (iIsPuzzle_any _ xs false _ (HX.out.later (by go_grown)) HP.out (HW.out.later (by go_grown))).mono ?_); rintro e w1 ⟨rfl, hb1⟩; (have c0 : w1.cell? ⟨w.heap.size, 0, none⟩ = some (.slice a0 xs.length cap) := cellB hb1 (by go_simp)); (have hB1 : Below w.heap.size w w1 := Below.trans (by go_grown) (hb1.mono (by first | omega | (simp; done) | (simp; omega)))); have hz1 := hB1.size))
  go_ret2
  exact ⟨rfl, hB1⟩

set_option maxHeartbeats 400000 in
theorem toldB_no (u : Value) (xs : List Tri) (w : World) (hx : SrcT w u xs) (f : Value) (hP : ¬ puzzleP xs) (hW : ClueW w) : Calls Tryd.prog 73 #[.agg #[u], f] w (fun e w' => e = .returned (.tuple #[.bool (false), .bool false]) ∧ Below w.heap.size w w') := by
  have HX := Lib.hid hx
  have HW := Lib.hid hW
  have HP := Lib.hid (show decide (puzzleP xs) = false from decide_eq_false hP)
  obtain ⟨a0, cap, g, off, rfl, _⟩ := hx.form
  clear hx hW
  go_enter Tryd.func73, Tryd.ntmps73
  go_wp2_with (first | (go_at_call 21; (refine (iIsPuzzle_any _ xs false _ (HX.out.later (by go_grown)) HP.out (HW.out.later (by go_grown))).mono ?_); rintro e w1 ⟨rfl, hb1⟩; (have c0 : w1.cell? ⟨w.heap.size, 0, none⟩ = some (.slice a0 xs.length cap) := cellB hb1 (by go_simp)); (have hB1 : Below w.heap.size w w1 := Below.trans (by go_grown) (hb1.mono (by first | omega | (simp; done) | (simp; omega)))); have hz1 := hB1.size))
  go_ret2
  exact ⟨rfl, hB1⟩

set_option maxHeartbeats 400000 in
theorem told_Solutions (u : Value) (xs : List Tri) (w : World) (hx : SrcT w u xs) (hP : puzzleP xs) (hW : ClueW w) : Calls Tryd.prog 64 #[.agg #[u], .func (.func 65) #[] #[]] w ((Gives (PairsIn 43) w (solZ xs) true)) := by
  have HX := Lib.hid hx
  have HW := Lib.hid hW
  have HP := Lib.hid (show decide (puzzleP xs) = true from decide_eq_true hP)
  obtain ⟨a0, cap, g, off, rfl, _⟩ := hx.form
  clear hx hW
  go_enter Tryd.func64, Tryd.ntmps64
  go_wp2_with (first | (go_at_call 21; (refine (iIsPuzzle_any _ xs true _ (HX.out.later (by go_grown)) HP.out (HW.out.later (by go_grown))).mono ?_); rintro e w1 ⟨rfl, hb1⟩; (have c0 : w1.cell? ⟨w.heap.size, 0, none⟩ = some (.slice a0 xs.length cap) := cellB hb1 (by go_simp)); (have hB1 : Below w.heap.size w w1 := Below.trans (by go_grown) (hb1.mono (by first | omega | (simp; done) | (simp; omega)))); have hz1 := hB1.size) | (go_at_call 65; (refine (solutionsOf_any _ xs _ (HX.out.later hB1) hP).mono ?_); rintro e w2 ⟨v, rfl, hI, hb2⟩))
  go_ret2
  exact ⟨_, rfl, hI.wider hz1 (Nat.le_refl _), hB1.trans (hb2.mono hz1)⟩

set_option maxHeartbeats 400000 in
theorem iSolutions_yes (u : Value) (xs : List Tri) (w : World) (hx : SrcT w u xs) (hP : puzzleP xs) (hW : ClueW w) : Calls Tryd.prog 27 #[.agg #[u]] w ((Gives (PairsIn 43) w (solZ xs) true)) := by
  have HX := Lib.hid hx
  have HW := Lib.hid hW
  have HP := Lib.hid (show decide (puzzleP xs) = true from decide_eq_true hP)
  obtain ⟨a0, cap, g, off, rfl, _⟩ := hx.form
  clear hx hW
  go_enter Tryd.func27, Tryd.ntmps27
  go_wp2_with (first | (go_at_call 64; (refine (told_Solutions _ xs _ (HX.out.later (by go_grown)) hP (HW.out.later (by go_grown))).mono ?_); rintro e w1 ⟨v, rfl, hI, hb1⟩))
  go_ret2
  exact ⟨_, rfl, hI.wider (by simp) (Nat.le_refl _), Below.trans (by go_grown) (hb1.mono (by first | omega | (simp; done) | (simp; omega)))⟩

set_option maxHeartbeats 400000 in
theorem iSolutions_no (u : Value) (xs : List Tri) (w : World) (hx : SrcT w u xs) (hP : ¬ puzzleP xs) (hW : ClueW w) : Calls Tryd.prog 27 #[.agg #[u]] w ((Gives (PairsIn 43) w [] false)) := by
  have HX := Lib.hid hx
  have HW := Lib.hid hW
  have HP := Lib.hid (show decide (puzzleP xs) = false from decide_eq_false hP)
  obtain ⟨a0, cap, g, off, rfl, _⟩ := hx.form
  clear hx hW
  go_enter Tryd.func27, Tryd.ntmps27
  go_wp2_with (first | (go_at_call 64; (refine (toldS_no _ xs _ (HX.out.later (by go_grown)) _ hP (HW.out.later (by go_grown))).mono ?_); rintro e w1 ⟨v, rfl, hI, hb1⟩))
  go_ret2
  exact ⟨_, rfl, hI.wider (by simp) (Nat.le_refl _), Below.trans (by go_grown) (hb1.mono (by first | omega | (simp; done) | (simp; omega)))⟩

set_option maxHeartbeats 400000 in
theorem sSolutions_no (u : Value) (xs : List Tri) (w : World) (hx : SrcT w u xs) (hP : ¬ puzzleP xs) (hW : ClueW w) : Calls Tryd.prog 26 #[.agg #[u]] w ((Gives (PairsIn 43) w [] false)) := by
  have HX := Lib.hid hx
  have HW := Lib.hid hW
  have HP := Lib.hid (show decide (puzzleP xs) = false from decide_eq_false hP)
  obtain ⟨a0, cap, g, off, rfl, _⟩ := hx.form
  clear hx hW
  go_enter Tryd.func26, Tryd.ntmps26
  go_wp2_with (first | (go_at_call 56; (refine (pzGood_any _ xs false _ (HX.out.later (by go_grown)) HP.out).mono ?_); rintro e w1 ⟨rfl, hb1⟩; (have c0 : w1.cell? ⟨w.heap.size, 0, none⟩ = some (.slice a0 xs.length cap) := cellB hb1 (by go_simp)); (have hB1 : Below w.heap.size w w1 := Below.trans (by go_grown) (hb1.mono (by first | omega | (simp; done) | (simp; omega)))); have hz1 := hB1.size))
  go_ret2
  exact ⟨_, rfl, PairsIn.nil _ _ _ _, hB1⟩

set_option maxHeartbeats 400000 in
theorem sSolutions_yes (u : Value) (xs : List Tri) (w : World) (hx : SrcT w u xs) (hP : puzzleP xs) (hW : ClueW w) : Calls Tryd.prog 26 #[.agg #[u]] w ((Gives (PairsIn 43) w (solZ xs) true)) := by
  have HX := Lib.hid hx
  have HW := Lib.hid hW
  have HP := Lib.hid (show decide (puzzleP xs) = true from decide_eq_true hP)
  obtain ⟨a0, cap, g, off, rfl, _⟩ := hx.form
  clear hx hW
  go_enter Tryd.func26, Tryd.ntmps26
  go_wp2_with (first | (go_at_call 56; (refine (pzGood_any _ xs true _ (HX.out.later (by go_grown)) HP.out).mono ?_); rintro e w1 ⟨rfl, hb1⟩; (have c0 : w1.cell? ⟨w.heap.size, 0, none⟩ = some (.slice a0 xs.length cap) := cellB hb1 (by go_simp)); (have hB1 : Below w.heap.size w w1 := Below.trans (by go_grown) (hb1.mono (by first | omega | (simp; done) | (simp; omega)))); have hz1 := hB1.size) | (go_at_call 63; (refine (pzAll_any _ xs _ (HX.out.later hB1) hP).mono ?_); rintro e w2 ⟨v, rfl, hI, hb2⟩))
  go_ret2
  exact ⟨_, rfl, hI.wider hz1 (Nat.le_refl _), hB1.trans (hb2.mono hz1)⟩

set_option maxHeartbeats 400000 in
theorem told_CountSolutions (u : Value) (xs : List Tri) (w : World) (hx : SrcT w u xs) (hP : puzzleP xs) (hW : ClueW w) : Calls Tryd.prog 67 #[.agg #[u], .func (.func 68) #[] #[]] w (fun e w' => e = .returned (.tuple #[.int .i64 (((solZ xs).length : Nat) : Int), .bool true]) ∧ Below w.heap.size w w') := by
  have HX := Lib.hid hx
  have HW := Lib.hid hW
  have HP := Lib.hid (show decide (puzzleP xs) = true from decide_eq_true hP)
  obtain ⟨a0, cap, g, off, rfl, _⟩ := hx.form
  clear hx hW
  go_enter Tryd.func67, Tryd.ntmps67
  go_wp2_with (first | (go_at_call 21; (refine (iIsPuzzle_any _ xs true _ (HX.out.later (by go_grown)) HP.out (HW.out.later (by go_grown))).mono ?_); rintro e w1 ⟨rfl, hb1⟩; (have c0 : w1.cell? ⟨w.heap.size, 0, none⟩ = some (.slice a0 xs.length cap) := cellB hb1 (by go_simp)); (have hB1 : Below w.heap.size w w1 := Below.trans (by go_grown) (hb1.mono (by first | omega | (simp; done) | (simp; omega)))); have hz1 := hB1.size) | (go_at_call 68; (refine (countFitting_any _ xs _ (HX.out.later hB1) hP).mono ?_); rintro e w2 ⟨rfl, hb2⟩))
  go_ret2
  exact ⟨rfl, hB1.trans (hb2.mono hz1)⟩

set_option maxHeartbeats 400000 in
theorem iCountSolutions_yes (u : Value) (xs : List Tri) (w : World) (hx : SrcT w u xs) (hP : puzzleP xs) (hW : ClueW w) : Calls Tryd.prog 33 #[.agg #[u]] w (fun e w' => e = .returned (.tuple #[.int .i64 (((solZ xs).length : Nat) : Int), .bool true]) ∧ Below w.heap.size w w') := by
  have HX := Lib.hid hx
  have HW := Lib.hid hW
  have HP := Lib.hid (show decide (puzzleP xs) = true from decide_eq_true hP)
  obtain ⟨a0, cap, g, off, rfl, _⟩ := hx.form
  clear hx hW
  go_enter Tryd.func33, Tryd.ntmps33
  go_wp2_with (first | (go_at_call 67; (refine (told_CountSolutions _ xs _ (HX.out.later (by go_grown)) hP (HW.out.later (by go_grown))).mono ?_); rintro e w1 ⟨rfl, hb1⟩))
  go_ret2
  exact ⟨rfl, Below.trans (by go_grown) (hb1.mono (by first | omega | (simp; done) | (simp; omega)))⟩

set_option maxHeartbeats 400000 in
theorem iCountSolutions_no (u : Value) (xs : List Tri) (w : World) (hx : SrcT w u xs) (hP : ¬ puzzleP xs) (hW : ClueW w) : Calls Tryd.prog 33 #[.agg #[u]] w (fun e w' => e = .returned (.tuple #[.int .i64 (0), .bool false]) ∧ Below w.heap.size w w') := by
  have HX := Lib.hid hx
  have HW := Lib.hid hW
  have HP := Lib.hid (show decide (puzzleP xs) = false from decide_eq_false hP)
  obtain ⟨a0, cap, g, off, rfl, _⟩ := hx.form
  clear hx hW
  go_enter Tryd.func33, Tryd.ntmps33
  go_wp2_with (first | (go_at_call 67; (refine (toldI_no _ xs _ (HX.out.later (by go_grown)) _ hP (HW.out.later (by go_grown))).mono ?_); rintro e w1 ⟨rfl, hb1⟩))
  go_ret2
  exact ⟨rfl, Below.trans (by go_grown) (hb1.mono (by first | omega | (simp; done) | (simp; omega)))⟩

set_option maxHeartbeats 400000 in
theorem sCountSolutions_no (u : Value) (xs : List Tri) (w : World) (hx : SrcT w u xs) (hP : ¬ puzzleP xs) (hW : ClueW w) : Calls Tryd.prog 32 #[.agg #[u]] w (fun e w' => e = .returned (.tuple #[.int .i64 (0), .bool false]) ∧ Below w.heap.size w w') := by
  have HX := Lib.hid hx
  have HW := Lib.hid hW
  have HP := Lib.hid (show decide (puzzleP xs) = false from decide_eq_false hP)
  obtain ⟨a0, cap, g, off, rfl, _⟩ := hx.form
  clear hx hW
  go_enter Tryd.func32, Tryd.ntmps32
  go_wp2_with (first | (go_at_call 56; (refine (pzGood_any _ xs false _ (HX.out.later (by go_grown)) HP.out).mono ?_); rintro e w1 ⟨rfl, hb1⟩; (have c0 : w1.cell? ⟨w.heap.size, 0, none⟩ = some (.slice a0 xs.length cap) := cellB hb1 (by go_simp)); (have hB1 : Below w.heap.size w w1 := Below.trans (by go_grown) (hb1.mono (by first | omega | (simp; done) | (simp; omega)))); have hz1 := hB1.size))
  go_ret2
  exact ⟨rfl, hB1⟩

set_option maxHeartbeats 400000 in
theorem sCountSolutions_yes (u : Value) (xs : List Tri) (w : World) (hx : SrcT w u xs) (hP : puzzleP xs) (hW : ClueW w) : Calls Tryd.prog 32 #[.agg #[u]] w (fun e w' => e = .returned (.tuple #[.int .i64 (((solZ xs).length : Nat) : Int), .bool true]) ∧ Below w.heap.size w w') := by
  have hl := solZ_length xs
  have HX := Lib.hid hx
  have HW := Lib.hid hW
  have HP := Lib.hid (show decide (puzzleP xs) = true from decide_eq_true hP)
  obtain ⟨a0, cap, g, off, rfl, _⟩ := hx.form
  clear hx hW
  go_enter Tryd.func32, Tryd.ntmps32
  go_wp2_with (first | (go_at_call 56; (refine (pzGood_any _ xs true _ (HX.out.later (by go_grown)) HP.out).mono ?_); rintro e w1 ⟨rfl, hb1⟩; (have c0 : w1.cell? ⟨w.heap.size, 0, none⟩ = some (.slice a0 xs.length cap) := cellB hb1 (by go_simp)); (have hB1 : Below w.heap.size w w1 := Below.trans (by go_grown) (hb1.mono (by first | omega | (simp; done) | (simp; omega)))); have hz1 := hB1.size) | (go_at_call 63; (refine (pzAll_any _ xs _ (HX.out.later hB1) hP).mono ?_); rintro e w2 ⟨v, rfl, hI, hb2⟩; (obtain ⟨a1, c1, g1, rfl, _⟩ := hI.pairs.view)))
  go_ret2
  exact ⟨rfl, hB1.trans (hb2.mono hz1)⟩

set_option maxHeartbeats 400000 in
theorem told_IsSolved (u : Value) (xs : List Tri) (w : World) (hx : SrcT w u xs) (hP : puzzleP xs) (hW : ClueW w) (t : Bool) (ht : ((((solZ xs).length : Nat) : Int) == 1) = t) : Calls Tryd.prog 73 #[.agg #[u], .func (.func 74) #[] #[]] w (fun e w' => e = .returned (.tuple #[.bool (t), .bool true]) ∧ Below w.heap.size w w') := by
  have HX := Lib.hid hx
  have HW := Lib.hid hW
  have HP := Lib.hid (show decide (puzzleP xs) = true from decide_eq_true hP)
  obtain ⟨a0, cap, g, off, rfl, _⟩ := hx.form
  clear hx hW
  have HT := Lib.hid ht
  clear ht
  go_enter Tryd.func73, Tryd.ntmps73
  go_wp2_with (first | (go_at_call 21; (refine (iIsPuzzle_any _ xs true _ (HX.out.later (by go_grown)) HP.out (HW.out.later (by go_grown))).mono ?_); rintro e w1 ⟨rfl, hb1⟩; (have c0 : w1.cell? ⟨w.heap.size, 0, none⟩ = some (.slice a0 xs.length cap) := cellB hb1 (by go_simp)); (have hB1 : Below w.heap.size w w1 := Below.trans (by go_grown) (hb1.mono (by first | omega | (simp; done) | (simp; omega)))); have hz1 := hB1.size) | (go_at_call 74; (refine (areSolved_any _ xs _ (HX.out.later hB1) hP t HT.out).mono ?_); rintro e w2 ⟨rfl, hb2⟩))
  go_ret2
  exact ⟨rfl, hB1.trans (hb2.mono hz1)⟩

set_option maxHeartbeats 400000 in
theorem iIsSolved_yes (u : Value) (xs : List Tri) (w : World) (hx : SrcT w u xs) (hP : puzzleP xs) (hW : ClueW w) (t : Bool) (ht : ((((solZ xs).length : Nat) : Int) == 1) = t) : Calls Tryd.prog 40 #[.agg #[u]] w (fun e w' => e = .returned (.tuple #[.bool (t), .bool true]) ∧ Below w.heap.size w w') := by
  have HX := Lib.hid hx
  have HW := Lib.hid hW
  have HP := Lib.hid (show decide (puzzleP xs) = true from decide_eq_true hP)
  obtain ⟨a0, cap, g, off, rfl, _⟩ := hx.form
  clear hx hW
  have HT := Lib.hid ht
  clear ht
  go_enter Tryd.func40, Tryd.ntmps40
  go_wp2_with (first | (go_at_call 73; (refine (told_IsSolved _ xs _ (HX.out.later (by go_grown)) hP (HW.out.later (by go_grown)) t HT.out).mono ?_); rintro e w1 ⟨rfl, hb1⟩))
  go_ret2
  exact ⟨rfl, Below.trans (by go_grown) (hb1.mono (by first | omega | (simp; done) | (simp; omega)))⟩

set_option maxHeartbeats 400000 in
theorem iIsSolved_no (u : Value) (xs : List Tri) (w : World) (hx : SrcT w u xs) (hP : ¬ puzzleP xs) (hW : ClueW w) : Calls Tryd.prog 40 #[.agg #[u]] w (fun e w' => e = .returned (.tuple #[.bool (false), .bool false]) ∧ Below w.heap.size w w') := by
  have HX := Lib.hid hx
  have HW := Lib.hid hW
  have HP := Lib.hid (show decide (puzzleP xs) = false from decide_eq_false hP)
  obtain ⟨a0, cap, g, off, rfl, _⟩ := hx.form
  clear hx hW
  go_enter Tryd.func40, Tryd.ntmps40
  go_wp2_with (first | (go_at_call 73; (refine (toldB_no _ xs _ (HX.out.later (by go_grown)) _ hP (HW.out.later (by go_grown))).mono ?_); rintro e w1 ⟨rfl, hb1⟩))
  go_ret2
  exact ⟨rfl, Below.trans (by go_grown) (hb1.mono (by first | omega | (simp; done) | (simp; omega)))⟩

set_option maxHeartbeats 400000 in
theorem sIsSolved_no (u : Value) (xs : List Tri) (w : World) (hx : SrcT w u xs) (hP : ¬ puzzleP xs) (hW : ClueW w) : Calls Tryd.prog 39 #[.agg #[u]] w (fun e w' => e = .returned (.tuple #[.bool (false), .bool false]) ∧ Below w.heap.size w w') := by
  have HX := Lib.hid hx
  have HW := Lib.hid hW
  have HP := Lib.hid (show decide (puzzleP xs) = false from decide_eq_false hP)
  obtain ⟨a0, cap, g, off, rfl, _⟩ := hx.form
  clear hx hW
  go_enter Tryd.func39, Tryd.ntmps39
  go_wp2_with (first | (go_at_call 56; (refine (pzGood_any _ xs false _ (HX.out.later (by go_grown)) HP.out).mono ?_); rintro e w1 ⟨rfl, hb1⟩; (have c0 : w1.cell? ⟨w.heap.size, 0, none⟩ = some (.slice a0 xs.length cap) := cellB hb1 (by go_simp)); (have hB1 : Below w.heap.size w w1 := Below.trans (by go_grown) (hb1.mono (by first | omega | (simp; done) | (simp; omega)))); have hz1 := hB1.size))
  go_ret2
  exact ⟨rfl, hB1⟩

set_option maxHeartbeats 400000 in
theorem sIsSolved_yes (u : Value) (xs : List Tri) (w : World) (hx : SrcT w u xs) (hP : puzzleP xs) (hW : ClueW w) (t : Bool) (ht : ((((solZ xs).length : Nat) : Int) == 1) = t) : Calls Tryd.prog 39 #[.agg #[u]] w (fun e w' => e = .returned (.tuple #[.bool (t), .bool true]) ∧ Below w.heap.size w w') := by
  have HX := Lib.hid hx
  have HW := Lib.hid hW
  have HP := Lib.hid (show decide (puzzleP xs) = true from decide_eq_true hP)
  obtain ⟨a0, cap, g, off, rfl, _⟩ := hx.form
  clear hx hW
  have HT := Lib.hid ht
  clear ht
  go_enter Tryd.func39, Tryd.ntmps39
  go_wp2_with (first | (go_at_call 56; (refine (pzGood_any _ xs true _ (HX.out.later (by go_grown)) HP.out).mono ?_); rintro e w1 ⟨rfl, hb1⟩; (have c0 : w1.cell? ⟨w.heap.size, 0, none⟩ = some (.slice a0 xs.length cap) := cellB hb1 (by go_simp)); (have hB1 : Below w.heap.size w w1 := Below.trans (by go_grown) (hb1.mono (by first | omega | (simp; done) | (simp; omega)))); have hz1 := hB1.size) | (go_at_call 72; (refine (pzSolved_any _ xs _ (HX.out.later hB1) hP t HT.out).mono ?_); rintro e w2 ⟨rfl, hb2⟩))
  go_ret2
  exact ⟨rfl, hB1.trans (hb2.mono hz1)⟩

set_option maxHeartbeats 2000000 in
theorem core_Solutions (v : Value) (xs : List Tri) (x : List (Int × Int)) (b : Bool) (w : World) (hA : ArgT w v xs) (hW : ClueW w) (hn : xs.length ≤ 1048576) (hx : x.length ≤ 1000000)
    (hs : ∀ (W : World) (u : Value) (B T : Nat), ClueW W → TripsIn 25 W B T u xs → T ≤ W.heap.size → Calls Tryd.prog 26 #[.agg #[u]] W (Gives (PairsIn 43) W x b))
    (hi : ∀ (W : World) (u : Value) (B T : Nat), ClueW W → TripsIn 25 W B T u xs → T ≤ W.heap.size → Calls Tryd.prog 27 #[.agg #[u]] W (Gives (PairsIn 43) W x b)) :
    Calls Tryd.prog 6 #[.agg #[v]] w fun e w' => e = .returned (.bool true) ∧ Below w.heap.size w w' := by
  have hA1 := hA
  obtain ⟨a0, cap, a, rfl, _⟩ := hA1
  have HS := Lib.hid hs
  have HI := Lib.hid hi
  have HA := Lib.hid hA
  have HW := Lib.hid hW
  clear hs hi hA hW
  go_enter Tryd.func6, Tryd.ntmps6
  go_wp2_with fail
  refine (szPuzzle_yes _ _ _ _ hn).mono ?_
  rintro e w1 ⟨rfl, hx1⟩
  have hb1 : Below w.heap.size w w1 := Below.trans (by go_grown) (hx1.mono (by first | omega | (simp; done) | (simp; omega)))
  have n1 : w.heap.size + 1 ≤ w1.heap.size := by have := hx1.size; (try simp at this); omega
  have B1 : Below w.heap.size w w1 := hb1
  have zp1 : w1.cell? ⟨w.heap.size, 0, none⟩ = some (.slice a0 xs.length cap) := cellB hx1 (by go_simp)
  go_wp2_with fail
  refine (toPuzzle_any _ _ _ (HA.out.later B1) hn).mono ?_
  rintro e w2 ⟨va, rfl, ka_2, hx2⟩
  have hb2 : Below w1.heap.size w1 w2 := Below.trans (by go_grown) (hx2.mono (by first | omega | (simp; done) | (simp; omega)))
  have n2 : w1.heap.size + 0 ≤ w2.heap.size := by have := hx2.size; (try simp at this); omega
  have B2 : Below w.heap.size w w2 := B1.trans (hb2.mono (by omega))
  have zp2 := cellB hb2 zp1
  clear zp1
  obtain ⟨aa, ma, ca, hva⟩ := own_formT ka_2.1
  subst hva
  go_wp2_with fail
  refine (HS.out _ _ _ _ (HW.out.later B2) ka_2 (by first | omega | (simp; done) | (simp; omega))).mono ?_
  rintro e w3 ⟨vw, rfl, kw_3, hx3⟩
  have hb3 : Below w2.heap.size w2 w3 := Below.trans (by go_grown) (hx3.mono (by first | omega | (simp; done) | (simp; omega)))
  have n3 : w2.heap.size + 0 ≤ w3.heap.size := by have := hx3.size; (try simp at this); omega
  have B3 : Below w.heap.size w w3 := B2.trans (hb3.mono (by omega))
  have zp3 := cellB hb3 zp2
  clear zp2
  have ka_3 := ka_2.keep (belowSame hb3 (by omega))
  obtain ⟨aw, mw, cw, hvw⟩ := own_formT kw_3.1
  subst hvw
  go_wp2_with fail
  refine (toPuzzle_any _ _ _ (HA.out.later B3) hn).mono ?_
  rintro e w4 ⟨vc, rfl, kc_4, hx4⟩
  have hb4 : Below w3.heap.size w3 w4 := Below.trans (by go_grown) (hx4.mono (by first | omega | (simp; done) | (simp; omega)))
  have n4 : w3.heap.size + 0 ≤ w4.heap.size := by have := hx4.size; (try simp at this); omega
  have B4 : Below w.heap.size w w4 := B3.trans (hb4.mono (by omega))
  have zp4 := cellB hb4 zp3
  clear zp3
  have ka_4 := ka_3.keep (belowSame hb4 (by omega))
  have kw_4 := kw_3.keep (belowSame hb4 (by omega))
  obtain ⟨ac, mc, cc, hvc⟩ := own_formT kc_4.1
  subst hvc
  go_wp2_with fail
  refine (HI.out _ _ _ _ (HW.out.later (Below.trans B4 (by go_grown))) (kc_4.keep (belowSame (by go_grown) (by first | omega | (simp; done) | (simp; omega)))) (by first | omega | (simp; done) | (simp; omega))).mono ?_
  rintro e w5 ⟨vg, rfl, kg_5, hx5⟩
  simp only [World.size_alloc] at kg_5
  have hb5 : Below w4.heap.size w4 w5 := Below.trans (by go_grown) (hx5.mono (by first | omega | (simp; done) | (simp; omega)))
  have n5 : w4.heap.size + 1 ≤ w5.heap.size := by have := hx5.size; (try simp at this); omega
  have B5 : Below w.heap.size w w5 := B4.trans (hb5.mono (by omega))
  have zp5 := cellB hb5 zp4
  clear zp4
  have zc5 : w5.cell? ⟨w4.heap.size, 0, none⟩ = some (.slice ac mc cc) := cellB hx5 (by go_simp)
  have ka_5 := ka_4.keep (belowSame hb5 (by omega))
  have kw_5 := kw_4.keep (belowSame hb5 (by omega))
  have kc_5 := kc_4.keep (belowSame hb5 (by omega))
  obtain ⟨ag, mg, cg, hvg⟩ := own_formT kg_5.1
  subst hvg
  go_wp2_with fail
  refine (eqStarS_in _ _ x _ _ _ _ _ _ kg_5 kw_5).mono ?_
  rintro e w6 ⟨rfl, hx6⟩
  have hb6 : Below w5.heap.size w5 w6 := Below.trans (by go_grown) (hx6.mono (by first | omega | (simp; done) | (simp; omega)))
  have n6 : w5.heap.size + 0 ≤ w6.heap.size := by have := hx6.size; (try simp at this); omega
  have B6 : Below w.heap.size w w6 := B5.trans (hb6.mono (by omega))
  have zp6 := cellB hb6 zp5
  have zc6 := cellB hb6 zc5
  clear zp5 zc5
  have ka_6 := ka_5.keep (belowSame hb6 (by omega))
  have kw_6 := kw_5.keep (belowSame hb6 (by omega))
  have kc_6 := kc_5.keep (belowSame hb6 (by omega))
  have kg_6 := kg_5.keep (belowSame hb6 (by omega))
  go_wp2
  go_region_held3 (fun w' => w'.cell? ⟨w.heap.size, 0, none⟩ = some (.slice a0 xs.length cap) ∧ w'.cell? ⟨w4.heap.size, 0, none⟩ = some (.slice ac mc cc)) (go_keep)
    (first | (go_at_call 20; refine (toPuzzle_any _ _ _ (HA.out.later (Below.trans B6 (by go_grown))) hn).mono ?_; rintro e w7 ⟨vd, rfl, kd_7, hx7⟩; (have kd_7 := kd_7.wider (B' := w6.heap.size + 0) (by first | exact Nat.le_refl _ | (simp; done) | (simp; omega)) (Nat.le_refl _)); (have hb7 : Below w6.heap.size w6 w7 := Below.trans (by go_grown) (hx7.mono (by first | omega | (simp; done) | (simp; omega)))); (have n7 : w6.heap.size + 0 ≤ w7.heap.size := by have := hx7.size; (try simp at this); omega); (have B7 : Below w.heap.size w w7 := B6.trans (hb7.mono (by omega))); (have zp7 := cellB hb7 zp6); (have zc7 := cellB hb7 zc6); (have ka_7 := ka_6.keep (belowSame hb7 (by omega))); (have kw_7 := kw_6.keep (belowSame hb7 (by omega))); (have kc_7 := kc_6.keep (belowSame hb7 (by omega))); (have kg_7 := kg_6.keep (belowSame hb7 (by omega))); (obtain ⟨ad, md, cd, hvd⟩ := own_formT kd_7.1); subst hvd) | (go_at_call 22; refine (eqPuzzle_in _ _ _ _ _ _ _ _ _ (kc_7.keep (belowSame (by go_grown) (by first | omega | (simp; done) | (simp; omega)))) (kd_7.keep (belowSame (by go_grown) (by first | omega | (simp; done) | (simp; omega)))) (by first | omega | (simp; done) | (simp; omega)) (by first | omega | (simp; done) | (simp; omega))).mono ?_; rintro e w8 ⟨rfl, hx8⟩; (have hb8 : Below w7.heap.size w7 w8 := Below.trans (by go_grown) (hx8.mono (by first | omega | (simp; done) | (simp; omega)))); (have n8 : w7.heap.size + 0 ≤ w8.heap.size := by have := hx8.size; (try simp at this); omega); (have B8 : Below w.heap.size w w8 := B7.trans (hb8.mono (by omega))); (have zp8 := cellB hb8 zp7); (have zc8 := cellB hb8 zc7); (have ka_8 := ka_7.keep (belowSame hb8 (by omega))); (have kw_8 := kw_7.keep (belowSame hb8 (by omega))); (have kc_8 := kc_7.keep (belowSame hb8 (by omega))); (have kg_8 := kg_7.keep (belowSame hb8 (by omega))); (have kd_8 := kd_7.keep (belowSame hb8 (by omega)))))
  go_wp2_with fail
  refine (markPuzzle_in _ _ 1 _ _ _ _ kc_8 (by omega) (by omega) (by omega) (by omega)).mono ?_
  rintro e w9 ⟨rfl, kc_9, o9⟩
  have n9 := o9.size
  have B9 := B8.trans (o9.below (C := w.heap.size) (by omega) (by omega))
  have zp9 := o9.cell (by omega) zp8
  have zc9 := o9.cell (by omega) zc8
  clear zp8 zc8
  have ka_9 := ka_8.keep (o9.same_in (by omega) (by omega))
  have kw_9 := kw_8.keep (o9.same_in (by omega) (by omega))
  have kg_9 := kg_8.keep (o9.same_in (by omega) (by omega))
  have kd_9 := kd_8.keep (o9.same_in (by omega) (by omega))
  go_wp2_with fail
  refine (eqStarS_in _ _ x _ _ _ _ _ _ kg_9 kw_9).mono ?_
  rintro e w10 ⟨rfl, hx10⟩
  have hb10 : Below w9.heap.size w9 w10 := Below.trans (by go_grown) (hx10.mono (by first | omega | (simp; done) | (simp; omega)))
  have n10 : w9.heap.size + 0 ≤ w10.heap.size := by have := hx10.size; (try simp at this); omega
  have B10 : Below w.heap.size w w10 := B9.trans (hb10.mono (by omega))
  have zp10 := cellB hb10 zp9
  have zc10 := cellB hb10 zc9
  clear zp9 zc9
  have ka_10 := ka_9.keep (belowSame hb10 (by omega))
  have kw_10 := kw_9.keep (belowSame hb10 (by omega))
  have kc_10 := kc_9.keep (belowSame hb10 (by omega))
  have kg_10 := kg_9.keep (belowSame hb10 (by omega))
  have kd_10 := kd_9.keep (belowSame hb10 (by omega))
  go_wp2_with fail
  refine (markStarS_in _ x 1 _ _ _ _ kg_10 (by omega) (by omega) (by omega)).mono ?_
  rintro e w11 ⟨rfl, kg_11, o11⟩
  have n11 := o11.size
  have B11 := B10.trans (o11.below (C := w.heap.size) (by omega) (by omega))
  have zp11 := o11.cell (by omega) zp10
  have zc11 := o11.cell (by omega) zc10
  clear zp10 zc10
  have ka_11 := ka_10.keep (o11.same_in (by omega) (by omega))
  have kw_11 := kw_10.keep (o11.same_in (by omega) (by omega))
  have kc_11 := kc_10.keep (o11.same_in (by omega) (by omega))
  have kd_11 := kd_10.keep (o11.same_in (by omega) (by omega))
  go_wp2_with fail
  refine (heldStarS_in _ 1 x.length _ _ _ _ kg_11 (by omega) (by omega) (by omega)).mono ?_
  rintro e w12 ⟨rfl, hx12⟩
  have hb12 : Below w11.heap.size w11 w12 := Below.trans (by go_grown) (hx12.mono (by first | omega | (simp; done) | (simp; omega)))
  have n12 : w11.heap.size + 0 ≤ w12.heap.size := by have := hx12.size; (try simp at this); omega
  have B12 : Below w.heap.size w w12 := B11.trans (hb12.mono (by omega))
  have zp12 := cellB hb12 zp11
  have zc12 := cellB hb12 zc11
  clear zp11 zc11
  have ka_12 := ka_11.keep (belowSame hb12 (by omega))
  have kw_12 := kw_11.keep (belowSame hb12 (by omega))
  have kc_12 := kc_11.keep (belowSame hb12 (by omega))
  have kg_12 := kg_11.keep (belowSame hb12 (by omega))
  have kd_12 := kd_11.keep (belowSame hb12 (by omega))
  go_wp2_with fail
  refine (toPuzzle_any _ _ _ (HA.out.later B12) hn).mono ?_
  rintro e w13 ⟨ve, rfl, ke_13, hx13⟩
  have hb13 : Below w12.heap.size w12 w13 := Below.trans (by go_grown) (hx13.mono (by first | omega | (simp; done) | (simp; omega)))
  have n13 : w12.heap.size + 0 ≤ w13.heap.size := by have := hx13.size; (try simp at this); omega
  have B13 : Below w.heap.size w w13 := B12.trans (hb13.mono (by omega))
  have zp13 := cellB hb13 zp12
  have zc13 := cellB hb13 zc12
  clear zp12 zc12
  have ka_13 := ka_12.keep (belowSame hb13 (by omega))
  have kw_13 := kw_12.keep (belowSame hb13 (by omega))
  have kc_13 := kc_12.keep (belowSame hb13 (by omega))
  have kg_13 := kg_12.keep (belowSame hb13 (by omega))
  have kd_13 := kd_12.keep (belowSame hb13 (by omega))
  obtain ⟨ae, me, ce, hve⟩ := own_formT ke_13.1
  subst hve
  go_wp2_with fail
  refine (HI.out _ _ _ _ (HW.out.later B13) ke_13 (by first | omega | (simp; done) | (simp; omega))).mono ?_
  rintro e w14 ⟨vh, rfl, kh_14, hx14⟩
  have hb14 : Below w13.heap.size w13 w14 := Below.trans (by go_grown) (hx14.mono (by first | omega | (simp; done) | (simp; omega)))
  have n14 : w13.heap.size + 0 ≤ w14.heap.size := by have := hx14.size; (try simp at this); omega
  have B14 : Below w.heap.size w w14 := B13.trans (hb14.mono (by omega))
  have zp14 := cellB hb14 zp13
  have zc14 := cellB hb14 zc13
  clear zp13 zc13
  have ka_14 := ka_13.keep (belowSame hb14 (by omega))
  have kw_14 := kw_13.keep (belowSame hb14 (by omega))
  have kc_14 := kc_13.keep (belowSame hb14 (by omega))
  have kg_14 := kg_13.keep (belowSame hb14 (by omega))
  have kd_14 := kd_13.keep (belowSame hb14 (by omega))
  have ke_14 := ke_13.keep (belowSame hb14 (by omega))
  obtain ⟨ah, mh, ch, hvh⟩ := own_formT kh_14.1
  subst hvh
  go_wp2_with fail
  refine (eqStarS_in _ _ x _ _ _ _ _ _ kh_14 kw_14).mono ?_
  rintro e w15 ⟨rfl, hx15⟩
  have hb15 : Below w14.heap.size w14 w15 := Below.trans (by go_grown) (hx15.mono (by first | omega | (simp; done) | (simp; omega)))
  have n15 : w14.heap.size + 0 ≤ w15.heap.size := by have := hx15.size; (try simp at this); omega
  have B15 : Below w.heap.size w w15 := B14.trans (hb15.mono (by omega))
  have zp15 := cellB hb15 zp14
  have zc15 := cellB hb15 zc14
  clear zp14 zc14
  have ka_15 := ka_14.keep (belowSame hb15 (by omega))
  have kw_15 := kw_14.keep (belowSame hb15 (by omega))
  have kc_15 := kc_14.keep (belowSame hb15 (by omega))
  have kg_15 := kg_14.keep (belowSame hb15 (by omega))
  have kd_15 := kd_14.keep (belowSame hb15 (by omega))
  have ke_15 := ke_14.keep (belowSame hb15 (by omega))
  have kh_15 := kh_14.keep (belowSame hb15 (by omega))
  go_wp2_with fail
  refine (heldStarS_in _ 1 x.length _ _ _ _ kg_15 (by omega) (by omega) (by omega)).mono ?_
  rintro e w16 ⟨rfl, hx16⟩
  have hb16 : Below w15.heap.size w15 w16 := Below.trans (by go_grown) (hx16.mono (by first | omega | (simp; done) | (simp; omega)))
  have n16 : w15.heap.size + 0 ≤ w16.heap.size := by have := hx16.size; (try simp at this); omega
  have B16 : Below w.heap.size w w16 := B15.trans (hb16.mono (by omega))
  have zp16 := cellB hb16 zp15
  have zc16 := cellB hb16 zc15
  clear zp15 zc15
  have ka_16 := ka_15.keep (belowSame hb16 (by omega))
  have kw_16 := kw_15.keep (belowSame hb16 (by omega))
  have kc_16 := kc_15.keep (belowSame hb16 (by omega))
  have kg_16 := kg_15.keep (belowSame hb16 (by omega))
  have kd_16 := kd_15.keep (belowSame hb16 (by omega))
  have ke_16 := ke_15.keep (belowSame hb16 (by omega))
  have kh_16 := kh_15.keep (belowSame hb16 (by omega))
  go_wp2_with fail
  go_ret
  exact ⟨rfl, B16⟩

set_option maxHeartbeats 400000 in
theorem long_Solutions (v : Value) (xs : List Tri) (w : World) (hA : ArgT w v xs) (hn : ¬ xs.length ≤ 1048576) :
    Calls Tryd.prog 6 #[.agg #[v]] w fun e w' => e = .returned (.bool true) ∧ Below w.heap.size w w' := by
  obtain ⟨a0, cap, a, rfl, _, hm, _⟩ := hA
  go_enter Tryd.func6, Tryd.ntmps6
  go_wp2_with fail
  refine (szPuzzle_no _ _ _ _ (by omega) hm).mono ?_
  rintro e w0 ⟨rfl, hb0⟩
  go_wp2_with fail
  go_ret
  exact ⟨rfl, Below.trans (by go_grown) (hb0.mono (by first | omega | (simp; done) | (simp; omega)))⟩

set_option maxHeartbeats 2000000 in
theorem core_CountSolutions (v : Value) (xs : List Tri) (x : Int) (b : Bool) (w : World) (hA : ArgT w v xs) (hW : ClueW w) (hn : xs.length ≤ 1048576)
    (hs : ∀ (W : World) (u : Value) (B T : Nat), ClueW W → TripsIn 25 W B T u xs → T ≤ W.heap.size → Calls Tryd.prog 32 #[.agg #[u]] W (fun e w' => e = .returned (.tuple #[.int .i64 x, .bool b]) ∧ Below W.heap.size W w'))
    (hi : ∀ (W : World) (u : Value) (B T : Nat), ClueW W → TripsIn 25 W B T u xs → T ≤ W.heap.size → Calls Tryd.prog 33 #[.agg #[u]] W (fun e w' => e = .returned (.tuple #[.int .i64 x, .bool b]) ∧ Below W.heap.size W w')) :
    Calls Tryd.prog 7 #[.agg #[v]] w fun e w' => e = .returned (.bool true) ∧ Below w.heap.size w w' := by
  have hA1 := hA
  obtain ⟨a0, cap, a, rfl, _⟩ := hA1
  have HS := Lib.hid hs
  have HI := Lib.hid hi
  have HA := Lib.hid hA
  have HW := Lib.hid hW
  clear hs hi hA hW
  go_enter Tryd.func7, Tryd.ntmps7
  go_wp2_with fail
  refine (szPuzzle_yes _ _ _ _ hn).mono ?_
  rintro e w1 ⟨rfl, hx1⟩
  have hb1 : Below w.heap.size w w1 := Below.trans (by go_grown) (hx1.mono (by first | omega | (simp; done) | (simp; omega)))
  have n1 : w.heap.size + 1 ≤ w1.heap.size := by have := hx1.size; (try simp at this); omega
  have B1 : Below w.heap.size w w1 := hb1
  have zp1 : w1.cell? ⟨w.heap.size, 0, none⟩ = some (.slice a0 xs.length cap) := cellB hx1 (by go_simp)
  go_wp2_with fail
  refine (toPuzzle_any _ _ _ (HA.out.later B1) hn).mono ?_
  rintro e w2 ⟨va, rfl, ka_2, hx2⟩
  have hb2 : Below w1.heap.size w1 w2 := Below.trans (by go_grown) (hx2.mono (by first | omega | (simp; done) | (simp; omega)))
  have n2 : w1.heap.size + 0 ≤ w2.heap.size := by have := hx2.size; (try simp at this); omega
  have B2 : Below w.heap.size w w2 := B1.trans (hb2.mono (by omega))
  have zp2 := cellB hb2 zp1
  clear zp1
  obtain ⟨aa, ma, ca, hva⟩ := own_formT ka_2.1
  subst hva
  go_wp2_with fail
  refine (HS.out _ _ _ _ (HW.out.later B2) ka_2 (by first | omega | (simp; done) | (simp; omega))).mono ?_
  rintro e w3 ⟨rfl, hx3⟩
  have hb3 : Below w2.heap.size w2 w3 := Below.trans (by go_grown) (hx3.mono (by first | omega | (simp; done) | (simp; omega)))
  have n3 : w2.heap.size + 0 ≤ w3.heap.size := by have := hx3.size; (try simp at this); omega
  have B3 : Below w.heap.size w w3 := B2.trans (hb3.mono (by omega))
  have zp3 := cellB hb3 zp2
  clear zp2
  have ka_3 := ka_2.keep (belowSame hb3 (by omega))
  go_wp2_with fail
  refine (toPuzzle_any _ _ _ (HA.out.later B3) hn).mono ?_
  rintro e w4 ⟨vc, rfl, kc_4, hx4⟩
  have hb4 : Below w3.heap.size w3 w4 := Below.trans (by go_grown) (hx4.mono (by first | omega | (simp; done) | (simp; omega)))
  have n4 : w3.heap.size + 0 ≤ w4.heap.size := by have := hx4.size; (try simp at this); omega
  have B4 : Below w.heap.size w w4 := B3.trans (hb4.mono (by omega))
  have zp4 := cellB hb4 zp3
  clear zp3
  have ka_4 := ka_3.keep (belowSame hb4 (by omega))
  obtain ⟨ac, mc, cc, hvc⟩ := own_formT kc_4.1
  subst hvc
  go_wp2_with fail
  refine (HI.out _ _ _ _ (HW.out.later (Below.trans B4 (by go_grown))) (kc_4.keep (belowSame (by go_grown) (by first | omega | (simp; done) | (simp; omega)))) (by first | omega | (simp; done) | (simp; omega))).mono ?_
  rintro e w5 ⟨rfl, hx5⟩
  have hb5 : Below w4.heap.size w4 w5 := Below.trans (by go_grown) (hx5.mono (by first | omega | (simp; done) | (simp; omega)))
  have n5 : w4.heap.size + 1 ≤ w5.heap.size := by have := hx5.size; (try simp at this); omega
  have B5 : Below w.heap.size w w5 := B4.trans (hb5.mono (by omega))
  have zp5 := cellB hb5 zp4
  clear zp4
  have zc5 : w5.cell? ⟨w4.heap.size, 0, none⟩ = some (.slice ac mc cc) := cellB hx5 (by go_simp)
  have ka_5 := ka_4.keep (belowSame hb5 (by omega))
  have kc_5 := kc_4.keep (belowSame hb5 (by omega))
  go_wp2
  go_region_held3 (fun w' => w'.cell? ⟨w.heap.size, 0, none⟩ = some (.slice a0 xs.length cap) ∧ w'.cell? ⟨w4.heap.size, 0, none⟩ = some (.slice ac mc cc)) (go_keep)
    (first | (go_at_call 20; refine (toPuzzle_any _ _ _ (HA.out.later (Below.trans B5 (by go_grown))) hn).mono ?_; rintro e w6 ⟨vd, rfl, kd_6, hx6⟩; (have kd_6 := kd_6.wider (B' := w5.heap.size + 0) (by first | exact Nat.le_refl _ | (simp; done) | (simp; omega)) (Nat.le_refl _)); (have hb6 : Below w5.heap.size w5 w6 := Below.trans (by go_grown) (hx6.mono (by first | omega | (simp; done) | (simp; omega)))); (have n6 : w5.heap.size + 0 ≤ w6.heap.size := by have := hx6.size; (try simp at this); omega); (have B6 : Below w.heap.size w w6 := B5.trans (hb6.mono (by omega))); (have zp6 := cellB hb6 zp5); (have zc6 := cellB hb6 zc5); (have ka_6 := ka_5.keep (belowSame hb6 (by omega))); (have kc_6 := kc_5.keep (belowSame hb6 (by omega))); (obtain ⟨ad, md, cd, hvd⟩ := own_formT kd_6.1); subst hvd) | (go_at_call 22; refine (eqPuzzle_in _ _ _ _ _ _ _ _ _ (kc_6.keep (belowSame (by go_grown) (by first | omega | (simp; done) | (simp; omega)))) (kd_6.keep (belowSame (by go_grown) (by first | omega | (simp; done) | (simp; omega)))) (by first | omega | (simp; done) | (simp; omega)) (by first | omega | (simp; done) | (simp; omega))).mono ?_; rintro e w7 ⟨rfl, hx7⟩; (have hb7 : Below w6.heap.size w6 w7 := Below.trans (by go_grown) (hx7.mono (by first | omega | (simp; done) | (simp; omega)))); (have n7 : w6.heap.size + 0 ≤ w7.heap.size := by have := hx7.size; (try simp at this); omega); (have B7 : Below w.heap.size w w7 := B6.trans (hb7.mono (by omega))); (have zp7 := cellB hb7 zp6); (have zc7 := cellB hb7 zc6); (have ka_7 := ka_6.keep (belowSame hb7 (by omega))); (have kc_7 := kc_6.keep (belowSame hb7 (by omega))); (have kd_7 := kd_6.keep (belowSame hb7 (by omega)))))
  go_wp2_with fail
  go_ret
  exact ⟨rfl, B7⟩

set_option maxHeartbeats 400000 in
theorem long_CountSolutions (v : Value) (xs : List Tri) (w : World) (hA : ArgT w v xs) (hn : ¬ xs.length ≤ 1048576) :
    Calls Tryd.prog 7 #[.agg #[v]] w fun e w' => e = .returned (.bool true) ∧ Below w.heap.size w w' := by
  obtain ⟨a0, cap, a, rfl, _, hm, _⟩ := hA
  go_enter Tryd.func7, Tryd.ntmps7
  go_wp2_with fail
  refine (szPuzzle_no _ _ _ _ (by omega) hm).mono ?_
  rintro e w0 ⟨rfl, hb0⟩
  go_wp2_with fail
  go_ret
  exact ⟨rfl, Below.trans (by go_grown) (hb0.mono (by first | omega | (simp; done) | (simp; omega)))⟩

set_option maxHeartbeats 2000000 in
theorem core_IsSolved (v : Value) (xs : List Tri) (x : Bool) (b : Bool) (w : World) (hA : ArgT w v xs) (hW : ClueW w) (hn : xs.length ≤ 1048576)
    (hs : ∀ (W : World) (u : Value) (B T : Nat), ClueW W → TripsIn 25 W B T u xs → T ≤ W.heap.size → Calls Tryd.prog 39 #[.agg #[u]] W (fun e w' => e = .returned (.tuple #[.bool x, .bool b]) ∧ Below W.heap.size W w'))
    (hi : ∀ (W : World) (u : Value) (B T : Nat), ClueW W → TripsIn 25 W B T u xs → T ≤ W.heap.size → Calls Tryd.prog 40 #[.agg #[u]] W (fun e w' => e = .returned (.tuple #[.bool x, .bool b]) ∧ Below W.heap.size W w')) :
    Calls Tryd.prog 10 #[.agg #[v]] w fun e w' => e = .returned (.bool true) ∧ Below w.heap.size w w' := by
  have hA1 := hA
  obtain ⟨a0, cap, a, rfl, _⟩ := hA1
  have HS := Lib.hid hs
  have HI := Lib.hid hi
  have HA := Lib.hid hA
  have HW := Lib.hid hW
  clear hs hi hA hW
  go_enter Tryd.func10, Tryd.ntmps10
  go_wp2_with fail
  refine (szPuzzle_yes _ _ _ _ hn).mono ?_
  rintro e w1 ⟨rfl, hx1⟩
  have hb1 : Below w.heap.size w w1 := Below.trans (by go_grown) (hx1.mono (by first | omega | (simp; done) | (simp; omega)))
  have n1 : w.heap.size + 1 ≤ w1.heap.size := by have := hx1.size; (try simp at this); omega
  have B1 : Below w.heap.size w w1 := hb1
  have zp1 : w1.cell? ⟨w.heap.size, 0, none⟩ = some (.slice a0 xs.length cap) := cellB hx1 (by go_simp)
  go_wp2_with fail
  refine (toPuzzle_any _ _ _ (HA.out.later B1) hn).mono ?_
  rintro e w2 ⟨va, rfl, ka_2, hx2⟩
  have hb2 : Below w1.heap.size w1 w2 := Below.trans (by go_grown) (hx2.mono (by first | omega | (simp; done) | (simp; omega)))
  have n2 : w1.heap.size + 0 ≤ w2.heap.size := by have := hx2.size; (try simp at this); omega
  have B2 : Below w.heap.size w w2 := B1.trans (hb2.mono (by omega))
  have zp2 := cellB hb2 zp1
  clear zp1
  obtain ⟨aa, ma, ca, hva⟩ := own_formT ka_2.1
  subst hva
  go_wp2_with fail
  refine (HS.out _ _ _ _ (HW.out.later B2) ka_2 (by first | omega | (simp; done) | (simp; omega))).mono ?_
  rintro e w3 ⟨rfl, hx3⟩
  have hb3 : Below w2.heap.size w2 w3 := Below.trans (by go_grown) (hx3.mono (by first | omega | (simp; done) | (simp; omega)))
  have n3 : w2.heap.size + 0 ≤ w3.heap.size := by have := hx3.size; (try simp at this); omega
  have B3 : Below w.heap.size w w3 := B2.trans (hb3.mono (by omega))
  have zp3 := cellB hb3 zp2
  clear zp2
  have ka_3 := ka_2.keep (belowSame hb3 (by omega))
  go_wp2_with fail
  refine (toPuzzle_any _ _ _ (HA.out.later B3) hn).mono ?_
  rintro e w4 ⟨vc, rfl, kc_4, hx4⟩
  have hb4 : Below w3.heap.size w3 w4 := Below.trans (by go_grown) (hx4.mono (by first | omega | (simp; done) | (simp; omega)))
  have n4 : w3.heap.size + 0 ≤ w4.heap.size := by have := hx4.size; (try simp at this); omega
  have B4 : Below w.heap.size w w4 := B3.trans (hb4.mono (by omega))
  have zp4 := cellB hb4 zp3
  clear zp3
  have ka_4 := ka_3.keep (belowSame hb4 (by omega))
  obtain ⟨ac, mc, cc, hvc⟩ := own_formT kc_4.1
  subst hvc
  go_wp2_with fail
  refine (HI.out _ _ _ _ (HW.out.later (Below.trans B4 (by go_grown))) (kc_4.keep (belowSame (by go_grown) (by first | omega | (simp; done) | (simp; omega)))) (by first | omega | (simp; done) | (simp; omega))).mono ?_
  rintro e w5 ⟨rfl, hx5⟩
  have hb5 : Below w4.heap.size w4 w5 := Below.trans (by go_grown) (hx5.mono (by first | omega | (simp; done) | (simp; omega)))
  have n5 : w4.heap.size + 1 ≤ w5.heap.size := by have := hx5.size; (try simp at this); omega
  have B5 : Below w.heap.size w w5 := B4.trans (hb5.mono (by omega))
  have zp5 := cellB hb5 zp4
  clear zp4
  have zc5 : w5.cell? ⟨w4.heap.size, 0, none⟩ = some (.slice ac mc cc) := cellB hx5 (by go_simp)
  have ka_5 := ka_4.keep (belowSame hb5 (by omega))
  have kc_5 := kc_4.keep (belowSame hb5 (by omega))
  go_wp2
  go_region_held3 (fun w' => w'.cell? ⟨w.heap.size, 0, none⟩ = some (.slice a0 xs.length cap) ∧ w'.cell? ⟨w4.heap.size, 0, none⟩ = some (.slice ac mc cc)) (go_keep)
    (first | (go_at_call 20; refine (toPuzzle_any _ _ _ (HA.out.later (Below.trans B5 (by go_grown))) hn).mono ?_; rintro e w6 ⟨vd, rfl, kd_6, hx6⟩; (have kd_6 := kd_6.wider (B' := w5.heap.size + 0) (by first | exact Nat.le_refl _ | (simp; done) | (simp; omega)) (Nat.le_refl _)); (have hb6 : Below w5.heap.size w5 w6 := Below.trans (by go_grown) (hx6.mono (by first | omega | (simp; done) | (simp; omega)))); (have n6 : w5.heap.size + 0 ≤ w6.heap.size := by have := hx6.size; (try simp at this); omega); (have B6 : Below w.heap.size w w6 := B5.trans (hb6.mono (by omega))); (have zp6 := cellB hb6 zp5); (have zc6 := cellB hb6 zc5); (have ka_6 := ka_5.keep (belowSame hb6 (by omega))); (have kc_6 := kc_5.keep (belowSame hb6 (by omega))); (obtain ⟨ad, md, cd, hvd⟩ := own_formT kd_6.1); subst hvd) | (go_at_call 22; refine (eqPuzzle_in _ _ _ _ _ _ _ _ _ (kc_6.keep (belowSame (by go_grown) (by first | omega | (simp; done) | (simp; omega)))) (kd_6.keep (belowSame (by go_grown) (by first | omega | (simp; done) | (simp; omega)))) (by first | omega | (simp; done) | (simp; omega)) (by first | omega | (simp; done) | (simp; omega))).mono ?_; rintro e w7 ⟨rfl, hx7⟩; (have hb7 : Below w6.heap.size w6 w7 := Below.trans (by go_grown) (hx7.mono (by first | omega | (simp; done) | (simp; omega)))); (have n7 : w6.heap.size + 0 ≤ w7.heap.size := by have := hx7.size; (try simp at this); omega); (have B7 : Below w.heap.size w w7 := B6.trans (hb7.mono (by omega))); (have zp7 := cellB hb7 zp6); (have zc7 := cellB hb7 zc6); (have ka_7 := ka_6.keep (belowSame hb7 (by omega))); (have kc_7 := kc_6.keep (belowSame hb7 (by omega))); (have kd_7 := kd_6.keep (belowSame hb7 (by omega)))))
  go_wp2_with fail
  go_ret
  exact ⟨rfl, B7⟩

set_option maxHeartbeats 400000 in
theorem long_IsSolved (v : Value) (xs : List Tri) (w : World) (hA : ArgT w v xs) (hn : ¬ xs.length ≤ 1048576) :
    Calls Tryd.prog 10 #[.agg #[v]] w fun e w' => e = .returned (.bool true) ∧ Below w.heap.size w w' := by
  obtain ⟨a0, cap, a, rfl, _, hm, _⟩ := hA
  go_enter Tryd.func10, Tryd.ntmps10
  go_wp2_with fail
  refine (szPuzzle_no _ _ _ _ (by omega) hm).mono ?_
  rintro e w0 ⟨rfl, hb0⟩
  go_wp2_with fail
  go_ret
  exact ⟨rfl, Below.trans (by go_grown) (hb0.mono (by first | omega | (simp; done) | (simp; omega)))⟩

theorem walk_Solutions (v : Value) (xs : List Tri) (w : World) (hA : ArgT w v xs) (hW : ClueW w) :
    Calls Tryd.prog 6 #[.agg #[v]] w fun e w' => e = .returned (.bool true) ∧ Below w.heap.size w w' := by
  by_cases hn : xs.length ≤ 1048576
  · by_cases hP : puzzleP xs
    · exact core_Solutions v xs (solZ xs) true w hA hW hn (Nat.le_trans (solZ_length xs) (by omega)) (fun W u B T hw h _ => sSolutions_yes u xs W h.1.src hP hw) (fun W u B T hw h _ => iSolutions_yes u xs W h.1.src hP hw)
    · exact core_Solutions v xs [] false w hA hW hn (by simp) (fun W u B T hw h _ => sSolutions_no u xs W h.1.src hP hw) (fun W u B T hw h _ => iSolutions_no u xs W h.1.src hP hw)
  · exact long_Solutions v xs w hA hn

theorem walk_CountSolutions (v : Value) (xs : List Tri) (w : World) (hA : ArgT w v xs) (hW : ClueW w) :
    Calls Tryd.prog 7 #[.agg #[v]] w fun e w' => e = .returned (.bool true) ∧ Below w.heap.size w w' := by
  by_cases hn : xs.length ≤ 1048576
  · by_cases hP : puzzleP xs
    · exact core_CountSolutions v xs (((solZ xs).length : Nat) : Int) true w hA hW hn (fun W u B T hw h _ => sCountSolutions_yes u xs W h.1.src hP hw) (fun W u B T hw h _ => iCountSolutions_yes u xs W h.1.src hP hw)
    · exact core_CountSolutions v xs 0 false w hA hW hn (fun W u B T hw h _ => sCountSolutions_no u xs W h.1.src hP hw) (fun W u B T hw h _ => iCountSolutions_no u xs W h.1.src hP hw)
  · exact long_CountSolutions v xs w hA hn

theorem walk_IsSolved (v : Value) (xs : List Tri) (w : World) (hA : ArgT w v xs) (hW : ClueW w) :
    Calls Tryd.prog 10 #[.agg #[v]] w fun e w' => e = .returned (.bool true) ∧ Below w.heap.size w w' := by
  by_cases hn : xs.length ≤ 1048576
  · by_cases hP : puzzleP xs
    · exact core_IsSolved v xs ((((solZ xs).length : Nat) : Int) == 1) true w hA hW hn (fun W u B T hw h _ => sIsSolved_yes u xs W h.1.src hP hw _ rfl) (fun W u B T hw h _ => iIsSolved_yes u xs W h.1.src hP hw _ rfl)
    · exact core_IsSolved v xs false false w hA hW hn (fun W u B T hw h _ => sIsSolved_no u xs W h.1.src hP hw) (fun W u B T hw h _ => iIsSolved_no u xs W h.1.src hP hw)
  · exact long_IsSolved v xs w hA hn

end Go.Proofs.YtpliaenpencocaaDoor
