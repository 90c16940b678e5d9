/- Solutions, CountSolutions, IsSolved: both sides, the laws. -/
import Derived.Test.YtbgcbokddldmkaaDoorXC
import Derived.Test.YtbgcbokddldmkaaDoorVS
namespace Go.Proofs.YtbgcbokddldmkaaDoor
open Go.RowKit
set_option linter.unusedVariables false

set_option maxHeartbeats 400000 in
theorem countFitting_any (u : Value) (xs : List Tri) (w : World) (hx : SrcT w u xs) (hP : puzzleP xs) : Calls Tryd.prog 67 #[u] w fun e w' => e = .returned (.int .i64 (((solZ xs).length : Nat) : Int)) ∧ Below w.heap.size w w' := by
  have HX := Lib.hid hx
  have HP := Lib.hid hP
  have hl := solZ_length xs
  obtain ⟨a0, cap, g, off, rfl, _⟩ := hx.form
  clear hx hP
  go_enter Tryd.func67, Tryd.ntmps67
  go_wp2_with (first | (go_at_call 104; (refine (solutionsOf_any _ xs _ HX.out HP.out).mono ?_); rintro e w1 ⟨v, rfl, hI, hb1⟩; (obtain ⟨a1, c1, g1, rfl, _⟩ := hI.pairs.view)))
  go_ret
  exact ⟨rfl, hb1⟩

set_option maxHeartbeats 400000 in
theorem areSolved_any (u : Value) (xs : List Tri) (w : World) (hx : SrcT w u xs) (hP : puzzleP xs) (t : Bool) (ht : ((((solZ xs).length : Nat) : Int) == 1) = t) : Calls Tryd.prog 71 #[u] w fun e w' => e = .returned (.bool t) ∧ Below w.heap.size w w' := by
  have HX := Lib.hid hx
  have HP := Lib.hid hP
  have HT := Lib.hid ht
  obtain ⟨a0, cap, g, off, rfl, _⟩ := hx.form
  clear hx hP ht
  go_enter Tryd.func71, Tryd.ntmps71
  go_wp2_with (first | (go_at_call 67; (refine (countFitting_any _ xs _ HX.out HP.out).mono ?_); rintro e w1 ⟨rfl, hb1⟩))
  go_ret
  exact ⟨by rw [← HT.out]; rfl, hb1⟩

set_option maxHeartbeats 400000 in
theorem pzSolved_any (u : Value) (xs : List Tri) (w : World) (hx : SrcT w u xs) (hP : puzzleP xs) (t : Bool) (ht : ((((solZ xs).length : Nat) : Int) == 1) = t) : Calls Tryd.prog 68 #[u] w fun e w' => e = .returned (.bool t) ∧ Below w.heap.size w w' := by
  have HX := Lib.hid hx
  have HP := Lib.hid hP
  have HT := Lib.hid ht
  have hl := solZ_length xs
  obtain ⟨a0, cap, g, off, rfl, _⟩ := hx.form
  clear hx hP ht
  go_enter Tryd.func68, Tryd.ntmps68
  go_wp2_with (first | (go_at_call 54; (refine (pzAll_any _ xs _ HX.out HP.out).mono ?_); rintro e w1 ⟨v, rfl, hI, hb1⟩; (obtain ⟨a1, c1, g1, rfl, _⟩ := hI.pairs.view)))
  go_ret
  exact ⟨by rw [← HT.out]; rfl, hb1⟩

set_option maxHeartbeats 400000 in
theorem toldB_no (u : Value) (xs : List Tri) (w : World) (hx : SrcT w u xs) (f : Value) (hP : ¬ puzzleP xs) (hW : ClueW w) : Calls Tryd.prog 105 #[.agg #[u], f] w (fun e w' => e = .returned (.tuple #[.bool (false), .bool false]) ∧ Below w.heap.size w w') := by
  have HX := Lib.hid hx
  have HW := Lib.hid hW
  have HP := Lib.hid (show decide (puzzleP xs) = false from decide_eq_false hP)
  obtain ⟨a0, cap, g, off, rfl, _⟩ := hx.form
  clear hx hW
  go_enter Tryd.func105, Tryd.ntmps105
  go_wp2_with (first | (go_at_call 62; (refine (iIsPuzzle_any _ xs false _ (HX.out.later (by go_grown)) HP.out (HW.out.later (by go_grown))).mono ?_); rintro e w1 ⟨rfl, hb1⟩; (have c0 : w1.cell? ⟨w.heap.size, 0, none⟩ = some (.slice a0 xs.length cap) := cellB hb1 (by go_simp)); (have hB1 : Below w.heap.size w w1 := Below.trans (by go_grown) (hb1.mono (by first | omega | (simp; done) | (simp; omega)))); have hz1 := hB1.size))
  go_ret2
  exact ⟨rfl, hB1⟩

set_option maxHeartbeats 400000 in
theorem told_IsSolved (u : Value) (xs : List Tri) (w : World) (hx : SrcT w u xs) (hP : puzzleP xs) (hW : ClueW w) (t : Bool) (ht : ((((solZ xs).length : Nat) : Int) == 1) = t) : Calls Tryd.prog 105 #[.agg #[u], .func (.func 71) #[] #[]] w (fun e w' => e = .returned (.tuple #[.bool (t), .bool true]) ∧ Below w.heap.size w w') := by
  have HX := Lib.hid hx
  have HW := Lib.hid hW
  have HP := Lib.hid (show decide (puzzleP xs) = true from decide_eq_true hP)
  obtain ⟨a0, cap, g, off, rfl, _⟩ := hx.form
  clear hx hW
  have HT := Lib.hid ht
  clear ht
  go_enter Tryd.func105, Tryd.ntmps105
  go_wp2_with (first | (go_at_call 62; (refine (iIsPuzzle_any _ xs true _ (HX.out.later (by go_grown)) HP.out (HW.out.later (by go_grown))).mono ?_); rintro e w1 ⟨rfl, hb1⟩; (have c0 : w1.cell? ⟨w.heap.size, 0, none⟩ = some (.slice a0 xs.length cap) := cellB hb1 (by go_simp)); (have hB1 : Below w.heap.size w w1 := Below.trans (by go_grown) (hb1.mono (by first | omega | (simp; done) | (simp; omega)))); have hz1 := hB1.size) | (go_at_call 71; (refine (areSolved_any _ xs _ (HX.out.later hB1) hP t HT.out).mono ?_); rintro e w2 ⟨rfl, hb2⟩))
  go_ret2
  exact ⟨rfl, hB1.trans (hb2.mono hz1)⟩

set_option maxHeartbeats 400000 in
theorem iIsSolved_yes (u : Value) (xs : List Tri) (w : World) (hx : SrcT w u xs) (hP : puzzleP xs) (hW : ClueW w) (t : Bool) (ht : ((((solZ xs).length : Nat) : Int) == 1) = t) : Calls Tryd.prog 69 #[.agg #[u]] w (fun e w' => e = .returned (.tuple #[.bool (t), .bool true]) ∧ Below w.heap.size w w') := by
  have HX := Lib.hid hx
  have HW := Lib.hid hW
  have HP := Lib.hid (show decide (puzzleP xs) = true from decide_eq_true hP)
  obtain ⟨a0, cap, g, off, rfl, _⟩ := hx.form
  clear hx hW
  have HT := Lib.hid ht
  clear ht
  go_enter Tryd.func69, Tryd.ntmps69
  go_wp2_with (first | (go_at_call 105; (refine (told_IsSolved _ xs _ (HX.out.later (by go_grown)) hP (HW.out.later (by go_grown)) t HT.out).mono ?_); rintro e w1 ⟨rfl, hb1⟩))
  go_ret2
  exact ⟨rfl, Below.trans (by go_grown) (hb1.mono (by first | omega | (simp; done) | (simp; omega)))⟩

set_option maxHeartbeats 400000 in
theorem iIsSolved_no (u : Value) (xs : List Tri) (w : World) (hx : SrcT w u xs) (hP : ¬ puzzleP xs) (hW : ClueW w) : Calls Tryd.prog 69 #[.agg #[u]] w (fun e w' => e = .returned (.tuple #[.bool (false), .bool false]) ∧ Below w.heap.size w w') := by
  have HX := Lib.hid hx
  have HW := Lib.hid hW
  have HP := Lib.hid (show decide (puzzleP xs) = false from decide_eq_false hP)
  obtain ⟨a0, cap, g, off, rfl, _⟩ := hx.form
  clear hx hW
  go_enter Tryd.func69, Tryd.ntmps69
  go_wp2_with (first | (go_at_call 105; (refine (toldB_no _ xs _ (HX.out.later (by go_grown)) _ hP (HW.out.later (by go_grown))).mono ?_); rintro e w1 ⟨rfl, hb1⟩))
  go_ret2
  exact ⟨rfl, Below.trans (by go_grown) (hb1.mono (by first | omega | (simp; done) | (simp; omega)))⟩

end Go.Proofs.YtbgcbokddldmkaaDoor
