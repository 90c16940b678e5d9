/- FirstSolution. -/
import Derived.Test.YtpliaenpencocaaDoorXD
namespace Go.Proofs.YtpliaenpencocaaDoor
open Go.RowKit
set_option linter.unusedVariables false

set_option maxHeartbeats 400000 in
theorem sFirst_some (u : Value) (xs : List Tri) (w : World) (hx : SrcT w u xs) (a b : Int) (t : List (Int × Int)) (hP : puzzleP xs) (hS : solZ xs = (a, b) :: t) (hW : ClueW w) : Calls Tryd.prog 34 #[.agg #[u]] w (fun e w' => e = .returned (.tuple #[.agg #[.int .i64 a, .int .i64 b], .bool true]) ∧ Below w.heap.size w w') := by
  have HX := Lib.hid hx
  have HW := Lib.hid hW
  have HP := Lib.hid (show decide (puzzleP xs) = true from decide_eq_true hP)
  obtain ⟨a0, cap, g, off, rfl, _⟩ := hx.form
  clear hx hW
  have HSO := Lib.hid hS
  clear hS
  go_enter Tryd.func34, Tryd.ntmps34
  go_wp2_with (first
    | (go_at_call 56; (refine (pzGood_any _ xs true _ (HX.out.later (by go_grown)) HP.out).mono ?_); rintro e w1 ⟨rfl, hb1⟩; (have c0 : w1.cell? ⟨w.heap.size, 0, none⟩ = some (.slice a0 xs.length cap) := cellB hb1 (by go_simp)); (have hB1 : Below w.heap.size w w1 := Below.trans (by go_grown) (hb1.mono (by first | omega | (simp; done) | (simp; omega)))); have hz1 := hB1.size; (have d0 : w1.cell? ⟨w.heap.size + 1, 0, none⟩ = some (.int .i64 0) := cellB hb1 (by go_simp)); (have d1 : w1.cell? ⟨w.heap.size + 1, 1, none⟩ = some (.int .i64 0) := cellB hb1 (by go_simp)); (have f0 : w1.frozen? ⟨w.heap.size + 1, 0, none⟩ = false := frozenB hb1 (by simp) (by go_simp)); (have f1 : w1.frozen? ⟨w.heap.size + 1, 1, none⟩ = false := frozenB hb1 (by simp) (by go_simp)); (have z1 : w.heap.size + 1 < w1.heap.size := by have := hb1.size; simp at this; omega))
    | (go_at_call 63; (refine (pzAll_any _ xs _ (HX.out.later hB1) hP).mono ?_); rintro e w2 ⟨v, rfl, hI, hb2⟩; (have d0 := cellB hb2 d0); (have d1 := cellB hb2 d1); (have f0 := frozenB hb2 z1 f0); (have f1 := frozenB hb2 z1 f1); (have hB9 := hB1.trans (hb2.mono hz1)); (rw [HSO.out] at hI); (obtain ⟨a1, c1, g1, rfl, ha1, _, hx1, hy1⟩ := hI.pairs.view); (obtain rfl := ha1 (by simp)); (have p0 := hx1 0 (by simp)); (have p1 := hy1 0 (by simp)); (simp only [List.getD_cons_zero, Nat.zero_mul, Nat.zero_add] at p0 p1); (obtain ⟨n, hn, hn0, hn1, hn2⟩ : ∃ n : Nat, ((a, b) :: t).length = n ∧ ¬ (n : Int) = 0 ∧ 0 < n ∧ (0 : Int) < (n : Int) := ⟨_, rfl, by first | (simp; done) | (simp; omega), by simp, by first | (simp; done) | (simp; omega)⟩); rw [hn]; clear hn hx1 hy1 ha1))
  refine bodyPost_ret (v := .tuple #[.agg #[.int .i64 a, .int .i64 b], .bool true]) (by simp [results, Tryd.results34, go_sem, d0, d1]) rfl ⟨rfl, ?_⟩
  first | exact (hB9.setC _ _ (by show _ ≤ w.heap.size + 1; omega)).setC _ _ (by show _ ≤ w.heap.size + 1; omega) | exact hB9

set_option maxHeartbeats 400000 in
theorem iFirst_some (u : Value) (xs : List Tri) (w : World) (hx : SrcT w u xs) (a b : Int) (t : List (Int × Int)) (hP : puzzleP xs) (hS : solZ xs = (a, b) :: t) (hW : ClueW w) : Calls Tryd.prog 35 #[.agg #[u]] w (fun e w' => e = .returned (.tuple #[.agg #[.int .i64 a, .int .i64 b], .bool true]) ∧ Below w.heap.size w w') := by
  have HX := Lib.hid hx
  have HW := Lib.hid hW
  have HP := Lib.hid (show decide (puzzleP xs) = true from decide_eq_true hP)
  obtain ⟨a0, cap, g, off, rfl, _⟩ := hx.form
  clear hx hW
  have HSO := Lib.hid hS
  clear hS
  go_enter Tryd.func35, Tryd.ntmps35
  go_wp2_with (first
    | (go_at_call 27; (refine (iSolutions_yes _ xs _ (HX.out.later (by go_grown)) hP (HW.out.later (by go_grown))).mono ?_); rintro e w1 ⟨v, rfl, hI, hb1⟩; (have d0 : w1.cell? ⟨w.heap.size + 1, 0, none⟩ = some (.int .i64 0) := cellB hb1 (by go_simp)); (have d1 : w1.cell? ⟨w.heap.size + 1, 1, none⟩ = some (.int .i64 0) := cellB hb1 (by go_simp)); (have f0 : w1.frozen? ⟨w.heap.size + 1, 0, none⟩ = false := frozenB hb1 (by simp) (by go_simp)); (have f1 : w1.frozen? ⟨w.heap.size + 1, 1, none⟩ = false := frozenB hb1 (by simp) (by go_simp)); (have z1 : w.heap.size + 1 < w1.heap.size := by have := hb1.size; simp at this; omega); (have hB9 : Below w.heap.size w w1 := Below.trans (by go_grown) (hb1.mono (by first | omega | (simp; done) | (simp; omega)))); (rw [HSO.out] at hI); (obtain ⟨a1, c1, g1, rfl, ha1, _, hx1, hy1⟩ := hI.pairs.view); (obtain rfl := ha1 (by simp)); (have p0 := hx1 0 (by simp)); (have p1 := hy1 0 (by simp)); (simp only [List.getD_cons_zero, Nat.zero_mul, Nat.zero_add] at p0 p1); (obtain ⟨n, hn, hn0, hn1, hn2⟩ : ∃ n : Nat, ((a, b) :: t).length = n ∧ ¬ (n : Int) = 0 ∧ 0 < n ∧ (0 : Int) < (n : Int) := ⟨_, rfl, by first | (simp; done) | (simp; omega), by simp, by first | (simp; done) | (simp; omega)⟩); rw [hn]; clear hn hx1 hy1 ha1))
  refine bodyPost_ret (v := .tuple #[.agg #[.int .i64 a, .int .i64 b], .bool true]) (by simp [results, Tryd.results35, go_sem, d0, d1]) rfl ⟨rfl, ?_⟩
  first | exact (hB9.setC _ _ (by show _ ≤ w.heap.size + 1; omega)).setC _ _ (by show _ ≤ w.heap.size + 1; omega) | exact hB9

set_option maxHeartbeats 400000 in
theorem sFirst_none (u : Value) (xs : List Tri) (w : World) (hx : SrcT w u xs) (hP : puzzleP xs) (hS : solZ xs = []) (hW : ClueW w) : Calls Tryd.prog 34 #[.agg #[u]] w (fun e w' => e = .returned (.tuple #[.agg #[.int .i64 0, .int .i64 0], .bool false]) ∧ Below w.heap.size w w') := by
  have HX := Lib.hid hx
  have HW := Lib.hid hW
  have HP := Lib.hid (show decide (puzzleP xs) = true from decide_eq_true hP)
  obtain ⟨a0, cap, g, off, rfl, _⟩ := hx.form
  clear hx hW
  have HSO := Lib.hid hS
  clear hS
  go_enter Tryd.func34, Tryd.ntmps34
  go_wp2_with (first
    | (go_at_call 56; (refine (pzGood_any _ xs true _ (HX.out.later (by go_grown)) HP.out).mono ?_); rintro e w1 ⟨rfl, hb1⟩; (have c0 : w1.cell? ⟨w.heap.size, 0, none⟩ = some (.slice a0 xs.length cap) := cellB hb1 (by go_simp)); (have hB1 : Below w.heap.size w w1 := Below.trans (by go_grown) (hb1.mono (by first | omega | (simp; done) | (simp; omega)))); have hz1 := hB1.size; (have d0 : w1.cell? ⟨w.heap.size + 1, 0, none⟩ = some (.int .i64 0) := cellB hb1 (by go_simp)); (have d1 : w1.cell? ⟨w.heap.size + 1, 1, none⟩ = some (.int .i64 0) := cellB hb1 (by go_simp)); (have f0 : w1.frozen? ⟨w.heap.size + 1, 0, none⟩ = false := frozenB hb1 (by simp) (by go_simp)); (have f1 : w1.frozen? ⟨w.heap.size + 1, 1, none⟩ = false := frozenB hb1 (by simp) (by go_simp)); (have z1 : w.heap.size + 1 < w1.heap.size := by have := hb1.size; simp at this; omega))
    | (go_at_call 63; (refine (pzAll_any _ xs _ (HX.out.later hB1) hP).mono ?_); rintro e w2 ⟨v, rfl, hI, hb2⟩; (have d0 := cellB hb2 d0); (have d1 := cellB hb2 d1); (have f0 := frozenB hb2 z1 f0); (have f1 := frozenB hb2 z1 f1); (have hB9 := hB1.trans (hb2.mono hz1)); (rw [HSO.out] at hI); (obtain ⟨a1, c1, g1, rfl, ha1, _, hx1, hy1⟩ := hI.pairs.view); clear hx1 hy1 ha1))
  refine bodyPost_ret (v := .tuple #[.agg #[.int .i64 0, .int .i64 0], .bool false]) (by simp [results, Tryd.results34, go_sem, d0, d1]) rfl ⟨rfl, ?_⟩
  first | exact (hB9.setC _ _ (by show _ ≤ w.heap.size + 1; omega)).setC _ _ (by show _ ≤ w.heap.size + 1; omega) | exact hB9

set_option maxHeartbeats 400000 in
theorem iFirst_none (u : Value) (xs : List Tri) (w : World) (hx : SrcT w u xs) (hP : puzzleP xs) (hS : solZ xs = []) (hW : ClueW w) : Calls Tryd.prog 35 #[.agg #[u]] w (fun e w' => e = .returned (.tuple #[.agg #[.int .i64 0, .int .i64 0], .bool false]) ∧ Below w.heap.size w w') := by
  have HX := Lib.hid hx
  have HW := Lib.hid hW
  have HP := Lib.hid (show decide (puzzleP xs) = true from decide_eq_true hP)
  obtain ⟨a0, cap, g, off, rfl, _⟩ := hx.form
  clear hx hW
  have HSO := Lib.hid hS
  clear hS
  go_enter Tryd.func35, Tryd.ntmps35
  go_wp2_with (first
    | (go_at_call 27; (refine (iSolutions_yes _ xs _ (HX.out.later (by go_grown)) hP (HW.out.later (by go_grown))).mono ?_); rintro e w1 ⟨v, rfl, hI, hb1⟩; (have d0 : w1.cell? ⟨w.heap.size + 1, 0, none⟩ = some (.int .i64 0) := cellB hb1 (by go_simp)); (have d1 : w1.cell? ⟨w.heap.size + 1, 1, none⟩ = some (.int .i64 0) := cellB hb1 (by go_simp)); (have f0 : w1.frozen? ⟨w.heap.size + 1, 0, none⟩ = false := frozenB hb1 (by simp) (by go_simp)); (have f1 : w1.frozen? ⟨w.heap.size + 1, 1, none⟩ = false := frozenB hb1 (by simp) (by go_simp)); (have z1 : w.heap.size + 1 < w1.heap.size := by have := hb1.size; simp at this; omega); (have hB9 : Below w.heap.size w w1 := Below.trans (by go_grown) (hb1.mono (by first | omega | (simp; done) | (simp; omega)))); (rw [HSO.out] at hI); (obtain ⟨a1, c1, g1, rfl, ha1, _, hx1, hy1⟩ := hI.pairs.view); clear hx1 hy1 ha1))
  refine bodyPost_ret (v := .tuple #[.agg #[.int .i64 0, .int .i64 0], .bool false]) (by simp [results, Tryd.results35, go_sem, d0, d1]) rfl ⟨rfl, ?_⟩
  first | exact (hB9.setC _ _ (by show _ ≤ w.heap.size + 1; omega)).setC _ _ (by show _ ≤ w.heap.size + 1; omega) | exact hB9

set_option maxHeartbeats 400000 in
theorem sFirst_bad (u : Value) (xs : List Tri) (w : World) (hx : SrcT w u xs) (hP : ¬ puzzleP xs) (hW : ClueW w) : Calls Tryd.prog 34 #[.agg #[u]] w (fun e w' => e = .returned (.tuple #[.agg #[.int .i64 0, .int .i64 0], .bool false]) ∧ Below w.heap.size w w') := by
  have HX := Lib.hid hx
  have HW := Lib.hid hW
  have HP := Lib.hid (show decide (puzzleP xs) = false from decide_eq_false hP)
  obtain ⟨a0, cap, g, off, rfl, _⟩ := hx.form
  clear hx hW
  go_enter Tryd.func34, Tryd.ntmps34
  go_wp2_with (first
    | (go_at_call 56; (refine (pzGood_any _ xs false _ (HX.out.later (by go_grown)) HP.out).mono ?_); rintro e w1 ⟨rfl, hb1⟩; (have c0 : w1.cell? ⟨w.heap.size, 0, none⟩ = some (.slice a0 xs.length cap) := cellB hb1 (by go_simp)); (have hB1 : Below w.heap.size w w1 := Below.trans (by go_grown) (hb1.mono (by first | omega | (simp; done) | (simp; omega)))); have hz1 := hB1.size; (have d0 : w1.cell? ⟨w.heap.size + 1, 0, none⟩ = some (.int .i64 0) := cellB hb1 (by go_simp)); (have d1 : w1.cell? ⟨w.heap.size + 1, 1, none⟩ = some (.int .i64 0) := cellB hb1 (by go_simp)); (have f0 : w1.frozen? ⟨w.heap.size + 1, 0, none⟩ = false := frozenB hb1 (by simp) (by go_simp)); (have f1 : w1.frozen? ⟨w.heap.size + 1, 1, none⟩ = false := frozenB hb1 (by simp) (by go_simp)); (have z1 : w.heap.size + 1 < w1.heap.size := by have := hb1.size; simp at this; omega); have hB9 := hB1))
  refine bodyPost_ret (v := .tuple #[.agg #[.int .i64 0, .int .i64 0], .bool false]) (by simp [results, Tryd.results34, go_sem, d0, d1]) rfl ⟨rfl, ?_⟩
  first | exact (hB9.setC _ _ (by show _ ≤ w.heap.size + 1; omega)).setC _ _ (by show _ ≤ w.heap.size + 1; omega) | exact hB9

set_option maxHeartbeats 400000 in
theorem iFirst_bad (u : Value) (xs : List Tri) (w : World) (hx : SrcT w u xs) (hP : ¬ puzzleP xs) (hW : ClueW w) : Calls Tryd.prog 35 #[.agg #[u]] w (fun e w' => e = .returned (.tuple #[.agg #[.int .i64 0, .int .i64 0], .bool false]) ∧ Below w.heap.size w w') := by
  have HX := Lib.hid hx
  have HW := Lib.hid hW
  have HP := Lib.hid (show decide (puzzleP xs) = false from decide_eq_false hP)
  obtain ⟨a0, cap, g, off, rfl, _⟩ := hx.form
  clear hx hW
  go_enter Tryd.func35, Tryd.ntmps35
  go_wp2_with (first
    | (go_at_call 27; (refine (iSolutions_no _ xs _ (HX.out.later (by go_grown)) hP (HW.out.later (by go_grown))).mono ?_); rintro e w1 ⟨v, rfl, hI, hb1⟩; (have d0 : w1.cell? ⟨w.heap.size + 1, 0, none⟩ = some (.int .i64 0) := cellB hb1 (by go_simp)); (have d1 : w1.cell? ⟨w.heap.size + 1, 1, none⟩ = some (.int .i64 0) := cellB hb1 (by go_simp)); (have f0 : w1.frozen? ⟨w.heap.size + 1, 0, none⟩ = false := frozenB hb1 (by simp) (by go_simp)); (have f1 : w1.frozen? ⟨w.heap.size + 1, 1, none⟩ = false := frozenB hb1 (by simp) (by go_simp)); (have z1 : w.heap.size + 1 < w1.heap.size := by have := hb1.size; simp at this; omega); (have hB9 : Below w.heap.size w w1 := Below.trans (by go_grown) (hb1.mono (by first | omega | (simp; done) | (simp; omega)))); (obtain ⟨a1, c1, g1, rfl, ha1, _, hx1, hy1⟩ := hI.pairs.view); clear hx1 hy1 ha1))
  refine bodyPost_ret (v := .tuple #[.agg #[.int .i64 0, .int .i64 0], .bool false]) (by simp [results, Tryd.results35, go_sem, d0, d1]) rfl ⟨rfl, ?_⟩
  first | exact (hB9.setC _ _ (by show _ ≤ w.heap.size + 1; omega)).setC _ _ (by show _ ≤ w.heap.size + 1; omega) | exact hB9

set_option maxHeartbeats 2000000 in
theorem core_FirstSolution (v : Value) (xs : List Tri) (x1 x2 : Int) (b : Bool) (w : World) (hA : ArgT w v xs) (hW : ClueW w) (hn : xs.length ≤ 1048576)
    (hs : ∀ (W : World) (u : Value) (B T : Nat), ClueW W → TripsIn 25 W B T u xs → T ≤ W.heap.size → Calls Tryd.prog 34 #[.agg #[u]] W (fun e w' => e = .returned (.tuple #[.agg #[.int .i64 x1, .int .i64 x2], .bool b]) ∧ Below W.heap.size W w'))
    (hi : ∀ (W : World) (u : Value) (B T : Nat), ClueW W → TripsIn 25 W B T u xs → T ≤ W.heap.size → Calls Tryd.prog 35 #[.agg #[u]] W (fun e w' => e = .returned (.tuple #[.agg #[.int .i64 x1, .int .i64 x2], .bool b]) ∧ Below W.heap.size W w')) :
    Calls Tryd.prog 8 #[.agg #[v]] w fun e w' => e = .returned (.bool true) ∧ Below w.heap.size w w' := by
  have hA1 := hA
  obtain ⟨a0, cap, a, rfl, _⟩ := hA1
  have HS := Lib.hid hs
  have HI := Lib.hid hi
  have HA := Lib.hid hA
  have HW := Lib.hid hW
  clear hs hi hA hW
  go_enter Tryd.func8, Tryd.ntmps8
  go_wp2_with fail
  refine (szPuzzle_yes _ _ _ _ hn).mono ?_
  rintro e w1 ⟨rfl, hx1⟩
  have hb1 : Below w.heap.size w w1 := Below.trans (by go_grown) (hx1.mono (by first | omega | (simp; done) | (simp; omega)))
  have n1 : w.heap.size + 1 ≤ w1.heap.size := by have := hx1.size; (try simp at this); omega
  have B1 : Below w.heap.size w w1 := hb1
  have zp1 : w1.cell? ⟨w.heap.size, 0, none⟩ = some (.slice a0 xs.length cap) := cellB hx1 (by go_simp)
  go_wp2_with fail
  refine (toPuzzle_any _ _ _ (HA.out.later B1) hn).mono ?_
  rintro e w2 ⟨va, rfl, ka_2, hx2⟩
  have hb2 : Below w1.heap.size w1 w2 := Below.trans (by go_grown) (hx2.mono (by first | omega | (simp; done) | (simp; omega)))
  have n2 : w1.heap.size + 0 ≤ w2.heap.size := by have := hx2.size; (try simp at this); omega
  have B2 : Below w.heap.size w w2 := B1.trans (hb2.mono (by omega))
  have zp2 := cellB hb2 zp1
  clear zp1
  obtain ⟨aa, ma, ca, hva⟩ := own_formT ka_2.1
  subst hva
  go_wp2_with fail
  refine (HS.out _ _ _ _ (HW.out.later B2) ka_2 (by first | omega | (simp; done) | (simp; omega))).mono ?_
  rintro e w3 ⟨rfl, hx3⟩
  have hb3 : Below w2.heap.size w2 w3 := Below.trans (by go_grown) (hx3.mono (by first | omega | (simp; done) | (simp; omega)))
  have n3 : w2.heap.size + 0 ≤ w3.heap.size := by have := hx3.size; (try simp at this); omega
  have B3 : Below w.heap.size w w3 := B2.trans (hb3.mono (by omega))
  have zp3 := cellB hb3 zp2
  clear zp2
  have ka_3 := ka_2.keep (belowSame hb3 (by omega))
  have qzpzw := cellB ((Below.refl w3.heap.size w3).alloc (Nat.le_refl _) (.cells #[Value.int .i64 x1, Value.int .i64 x2] 43)) zp3
  go_wp2_with fail
  refine (toPuzzle_any _ _ _ (HA.out.later (Below.trans B3 (by go_grown))) hn).mono ?_
  rintro e w4 ⟨vc, rfl, kc_4, hx4⟩
  simp only [World.size_alloc] at kc_4
  have hb4 : Below w3.heap.size w3 w4 := Below.trans (by go_grown) (hx4.mono (by first | omega | (simp; done) | (simp; omega)))
  have n4 : w3.heap.size + 1 ≤ w4.heap.size := by have := hx4.size; (try simp at this); omega
  have B4 : Below w.heap.size w w4 := B3.trans (hb4.mono (by omega))
  have zp4 := cellB hb4 zp3
  clear zp3
  have zwx4 : w4.cell? ⟨w3.heap.size, 0, none⟩ = some (.int .i64 x1) := cellB hx4 (by go_simp)
  have zwy4 : w4.cell? ⟨w3.heap.size, 1, none⟩ = some (.int .i64 x2) := cellB hx4 (by go_simp)
  have ka_4 := ka_3.keep (belowSame hb4 (by omega))
  obtain ⟨ac, mc, cc, hvc⟩ := own_formT kc_4.1
  subst hvc
  have qzpzc := cellB ((Below.refl w4.heap.size w4).alloc (Nat.le_refl _) (.cells #[Value.slice ac mc cc] 35)) zp4
  have qzwxzc := cellB ((Below.refl w4.heap.size w4).alloc (Nat.le_refl _) (.cells #[Value.slice ac mc cc] 35)) zwx4
  have qzwyzc := cellB ((Below.refl w4.heap.size w4).alloc (Nat.le_refl _) (.cells #[Value.slice ac mc cc] 35)) zwy4
  go_wp2_with fail
  refine (HI.out _ _ _ _ (HW.out.later (Below.trans B4 (by go_grown))) (kc_4.keep (belowSame (by go_grown) (by first | omega | (simp; done) | (simp; omega)))) (by first | omega | (simp; done) | (simp; omega))).mono ?_
  rintro e w5 ⟨rfl, hx5⟩
  have hb5 : Below w4.heap.size w4 w5 := Below.trans (by go_grown) (hx5.mono (by first | omega | (simp; done) | (simp; omega)))
  have n5 : w4.heap.size + 1 ≤ w5.heap.size := by have := hx5.size; (try simp at this); omega
  have B5 : Below w.heap.size w w5 := B4.trans (hb5.mono (by omega))
  have zp5 := cellB hb5 zp4
  have zwx5 := cellB hb5 zwx4
  have zwy5 := cellB hb5 zwy4
  clear zp4 zwx4 zwy4
  have zc5 : w5.cell? ⟨w4.heap.size, 0, none⟩ = some (.slice ac mc cc) := cellB hx5 (by go_simp)
  have ka_5 := ka_4.keep (belowSame hb5 (by omega))
  have kc_5 := kc_4.keep (belowSame hb5 (by omega))
  have qzpzg := cellB ((Below.refl w5.heap.size w5).alloc (Nat.le_refl _) (.cells #[Value.int .i64 x1, Value.int .i64 x2] 43)) zp5
  have qzwxzg := cellB ((Below.refl w5.heap.size w5).alloc (Nat.le_refl _) (.cells #[Value.int .i64 x1, Value.int .i64 x2] 43)) zwx5
  have qzwyzg := cellB ((Below.refl w5.heap.size w5).alloc (Nat.le_refl _) (.cells #[Value.int .i64 x1, Value.int .i64 x2] 43)) zwy5
  have qzczg := cellB ((Below.refl w5.heap.size w5).alloc (Nat.le_refl _) (.cells #[Value.int .i64 x1, Value.int .i64 x2] 43)) zc5
  go_wp2_with fail
  refine (eqStar_same _ _ _).mono ?_
  rintro e w6 ⟨rfl, hx6⟩
  have hb6 : Below w5.heap.size w5 w6 := Below.trans (by go_grown) (hx6.mono (by first | omega | (simp; done) | (simp; omega)))
  have n6 : w5.heap.size + 1 ≤ w6.heap.size := by have := hx6.size; (try simp at this); omega
  have B6 : Below w.heap.size w w6 := B5.trans (hb6.mono (by omega))
  have zp6 := cellB hb6 zp5
  have zwx6 := cellB hb6 zwx5
  have zwy6 := cellB hb6 zwy5
  have zc6 := cellB hb6 zc5
  clear zp5 zwx5 zwy5 zc5
  have zgx6 : w6.cell? ⟨w5.heap.size, 0, none⟩ = some (.int .i64 x1) := cellB hx6 (by go_simp)
  have zgy6 : w6.cell? ⟨w5.heap.size, 1, none⟩ = some (.int .i64 x2) := cellB hx6 (by go_simp)
  have ka_6 := ka_5.keep (belowSame hb6 (by omega))
  have kc_6 := kc_5.keep (belowSame hb6 (by omega))
  go_wp2
  go_region_held3 (fun w' => w'.cell? ⟨w.heap.size, 0, none⟩ = some (.slice a0 xs.length cap) ∧ w'.cell? ⟨w3.heap.size, 0, none⟩ = some (.int .i64 x1) ∧ w'.cell? ⟨w3.heap.size, 1, none⟩ = some (.int .i64 x2) ∧ w'.cell? ⟨w4.heap.size, 0, none⟩ = some (.slice ac mc cc) ∧ w'.cell? ⟨w5.heap.size, 0, none⟩ = some (.int .i64 x1) ∧ w'.cell? ⟨w5.heap.size, 1, none⟩ = some (.int .i64 x2)) (go_keep)
    (first | (go_at_call 20; refine (toPuzzle_any _ _ _ (HA.out.later (Below.trans B6 (by go_grown))) hn).mono ?_; rintro e w7 ⟨vd, rfl, kd_7, hx7⟩; (have kd_7 := kd_7.wider (B' := w6.heap.size + 0) (by first | exact Nat.le_refl _ | (simp; done) | (simp; omega)) (Nat.le_refl _)); (have hb7 : Below w6.heap.size w6 w7 := Below.trans (by go_grown) (hx7.mono (by first | omega | (simp; done) | (simp; omega)))); (have n7 : w6.heap.size + 0 ≤ w7.heap.size := by have := hx7.size; (try simp at this); omega); (have B7 : Below w.heap.size w w7 := B6.trans (hb7.mono (by omega))); (have zp7 := cellB hb7 zp6); (have zwx7 := cellB hb7 zwx6); (have zwy7 := cellB hb7 zwy6); (have zc7 := cellB hb7 zc6); (have zgx7 := cellB hb7 zgx6); (have zgy7 := cellB hb7 zgy6); (have ka_7 := ka_6.keep (belowSame hb7 (by omega))); (have kc_7 := kc_6.keep (belowSame hb7 (by omega))); (obtain ⟨ad, md, cd, hvd⟩ := own_formT kd_7.1); subst hvd) | (go_at_call 22; refine (eqPuzzle_in _ _ _ _ _ _ _ _ _ (kc_7.keep (belowSame (by go_grown) (by first | omega | (simp; done) | (simp; omega)))) (kd_7.keep (belowSame (by go_grown) (by first | omega | (simp; done) | (simp; omega)))) (by first | omega | (simp; done) | (simp; omega)) (by first | omega | (simp; done) | (simp; omega))).mono ?_; rintro e w8 ⟨rfl, hx8⟩; (have hb8 : Below w7.heap.size w7 w8 := Below.trans (by go_grown) (hx8.mono (by first | omega | (simp; done) | (simp; omega)))); (have n8 : w7.heap.size + 0 ≤ w8.heap.size := by have := hx8.size; (try simp at this); omega); (have B8 : Below w.heap.size w w8 := B7.trans (hb8.mono (by omega))); (have zp8 := cellB hb8 zp7); (have zwx8 := cellB hb8 zwx7); (have zwy8 := cellB hb8 zwy7); (have zc8 := cellB hb8 zc7); (have zgx8 := cellB hb8 zgx7); (have zgy8 := cellB hb8 zgy7); (have ka_8 := ka_7.keep (belowSame hb8 (by omega))); (have kc_8 := kc_7.keep (belowSame hb8 (by omega))); (have kd_8 := kd_7.keep (belowSame hb8 (by omega)))))
  go_wp2_with fail
  go_ret
  exact ⟨rfl, B8⟩

set_option maxHeartbeats 400000 in
theorem long_FirstSolution (v : Value) (xs : List Tri) (w : World) (hA : ArgT w v xs) (hn : ¬ xs.length ≤ 1048576) :
    Calls Tryd.prog 8 #[.agg #[v]] w fun e w' => e = .returned (.bool true) ∧ Below w.heap.size w w' := by
  obtain ⟨a0, cap, a, rfl, _, hm, _⟩ := hA
  go_enter Tryd.func8, Tryd.ntmps8
  go_wp2_with fail
  refine (szPuzzle_no _ _ _ _ (by omega) hm).mono ?_
  rintro e w0 ⟨rfl, hb0⟩
  go_wp2_with fail
  go_ret
  exact ⟨rfl, Below.trans (by go_grown) (hb0.mono (by first | omega | (simp; done) | (simp; omega)))⟩

theorem walk_FirstSolution (v : Value) (xs : List Tri) (w : World) (hA : ArgT w v xs) (hW : ClueW w) :
    Calls Tryd.prog 8 #[.agg #[v]] w fun e w' => e = .returned (.bool true) ∧ Below w.heap.size w w' := by
  by_cases hn : xs.length ≤ 1048576
  · by_cases hP : puzzleP xs
    · match hS : solZ xs with
      | [] => exact core_FirstSolution v xs 0 0 false w hA hW hn (fun W u B T hw h _ => sFirst_none u xs W h.1.src hP hS hw) (fun W u B T hw h _ => iFirst_none u xs W h.1.src hP hS hw)
      | (a, b) :: t => exact core_FirstSolution v xs a b true w hA hW hn (fun W u B T hw h _ => sFirst_some u xs W h.1.src a b t hP hS hw) (fun W u B T hw h _ => iFirst_some u xs W h.1.src a b t hP hS hw)
    · exact core_FirstSolution v xs 0 0 false w hA hW hn (fun W u B T hw h _ => sFirst_bad u xs W h.1.src hP hw) (fun W u B T hw h _ => iFirst_bad u xs W h.1.src hP hw)
  · exact long_FirstSolution v xs w hA hn
end Go.Proofs.YtpliaenpencocaaDoor
