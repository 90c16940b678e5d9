/- Closed words, counted: the program's step. -/
import Derived.Test.YtbgcbokddldmkaaDoorCc2
import Derived.Test.YtbgcbokddldmkaaDoorX2
namespace Go.Proofs.YtbgcbokddldmkaaDoor
open Go.RowKit
set_option linter.unusedVariables false

/-- The package's tables of steps hold them. -/
structure StepsW (w : World) : Prop where
  sq : ∀ i : Nat, i < 4 → w.cell? ⟨1, i * 2, none⟩ = some (.int .i64 (stepG' 4 i).1) ∧ w.cell? ⟨1, i * 2 + 1, none⟩ = some (.int .i64 (stepG' 4 i).2)
  tr : ∀ i : Nat, i < 6 → w.cell? ⟨2, i * 2, none⟩ = some (.int .i64 (stepG' 6 i).1) ∧ w.cell? ⟨2, i * 2 + 1, none⟩ = some (.int .i64 (stepG' 6 i).2)

theorem StepsW.later {w w' : World} (h : StepsW w) (hb : Below w.heap.size w w') : StepsW w' :=
  ⟨fun i hi => ⟨cellB hb (h.sq i hi).1, cellB hb (h.sq i hi).2⟩, fun i hi => ⟨cellB hb (h.tr i hi).1, cellB hb (h.tr i hi).2⟩⟩

set_option maxHeartbeats 1000000 in
theorem stepIn_4_0 (w : World) (hW : StepsW w) : Calls Tryd.prog 148 #[.int .i64 4, .int .i64 0] w fun e w' => e = .returned (.agg #[.int .i64 1, .int .i64 0]) ∧ Below w.heap.size w w' := by
  have hx : w.cell? ⟨1, 0, none⟩ = some (.int .i64 1) ∧ w.cell? ⟨1, 1, none⟩ = some (.int .i64 0) := hW.sq 0 (by omega)
  have t0 := cellB (w' := w.alloc (.cells #[.int .i64 0, .int .i64 0] 108)) (by go_grown) hx.1
  have t1 := cellB (w' := w.alloc (.cells #[.int .i64 0, .int .i64 0] 108)) (by go_grown) hx.2
  clear hx hW
  go_enter Tryd.func148, Tryd.ntmps148
  go_wp2
  exact bodyPost_ret (v := .agg #[.int .i64 1, .int .i64 0]) (by simp [results, Tryd.results148, go_sem]) rfl ⟨rfl, by go_grown⟩

set_option maxHeartbeats 1000000 in
theorem stepIn_4_1 (w : World) (hW : StepsW w) : Calls Tryd.prog 148 #[.int .i64 4, .int .i64 1] w fun e w' => e = .returned (.agg #[.int .i64 0, .int .i64 1]) ∧ Below w.heap.size w w' := by
  have hx : w.cell? ⟨1, 2, none⟩ = some (.int .i64 0) ∧ w.cell? ⟨1, 3, none⟩ = some (.int .i64 1) := hW.sq 1 (by omega)
  have t0 := cellB (w' := w.alloc (.cells #[.int .i64 0, .int .i64 0] 108)) (by go_grown) hx.1
  have t1 := cellB (w' := w.alloc (.cells #[.int .i64 0, .int .i64 0] 108)) (by go_grown) hx.2
  clear hx hW
  go_enter Tryd.func148, Tryd.ntmps148
  go_wp2
  exact bodyPost_ret (v := .agg #[.int .i64 0, .int .i64 1]) (by simp [results, Tryd.results148, go_sem]) rfl ⟨rfl, by go_grown⟩

set_option maxHeartbeats 1000000 in
theorem stepIn_4_2 (w : World) (hW : StepsW w) : Calls Tryd.prog 148 #[.int .i64 4, .int .i64 2] w fun e w' => e = .returned (.agg #[.int .i64 (-1), .int .i64 0]) ∧ Below w.heap.size w w' := by
  have hx : w.cell? ⟨1, 4, none⟩ = some (.int .i64 (-1)) ∧ w.cell? ⟨1, 5, none⟩ = some (.int .i64 0) := hW.sq 2 (by omega)
  have t0 := cellB (w' := w.alloc (.cells #[.int .i64 0, .int .i64 0] 108)) (by go_grown) hx.1
  have t1 := cellB (w' := w.alloc (.cells #[.int .i64 0, .int .i64 0] 108)) (by go_grown) hx.2
  clear hx hW
  go_enter Tryd.func148, Tryd.ntmps148
  go_wp2
  exact bodyPost_ret (v := .agg #[.int .i64 (-1), .int .i64 0]) (by simp [results, Tryd.results148, go_sem]) rfl ⟨rfl, by go_grown⟩

set_option maxHeartbeats 1000000 in
theorem stepIn_4_3 (w : World) (hW : StepsW w) : Calls Tryd.prog 148 #[.int .i64 4, .int .i64 3] w fun e w' => e = .returned (.agg #[.int .i64 0, .int .i64 (-1)]) ∧ Below w.heap.size w w' := by
  have hx : w.cell? ⟨1, 6, none⟩ = some (.int .i64 0) ∧ w.cell? ⟨1, 7, none⟩ = some (.int .i64 (-1)) := hW.sq 3 (by omega)
  have t0 := cellB (w' := w.alloc (.cells #[.int .i64 0, .int .i64 0] 108)) (by go_grown) hx.1
  have t1 := cellB (w' := w.alloc (.cells #[.int .i64 0, .int .i64 0] 108)) (by go_grown) hx.2
  clear hx hW
  go_enter Tryd.func148, Tryd.ntmps148
  go_wp2
  exact bodyPost_ret (v := .agg #[.int .i64 0, .int .i64 (-1)]) (by simp [results, Tryd.results148, go_sem]) rfl ⟨rfl, by go_grown⟩

set_option maxHeartbeats 1000000 in
theorem stepIn_6_0 (w : World) (hW : StepsW w) : Calls Tryd.prog 148 #[.int .i64 6, .int .i64 0] w fun e w' => e = .returned (.agg #[.int .i64 1, .int .i64 0]) ∧ Below w.heap.size w w' := by
  have hx : w.cell? ⟨2, 0, none⟩ = some (.int .i64 1) ∧ w.cell? ⟨2, 1, none⟩ = some (.int .i64 0) := hW.tr 0 (by omega)
  have t0 := cellB (w' := w.alloc (.cells #[.int .i64 0, .int .i64 0] 108)) (by go_grown) hx.1
  have t1 := cellB (w' := w.alloc (.cells #[.int .i64 0, .int .i64 0] 108)) (by go_grown) hx.2
  clear hx hW
  go_enter Tryd.func148, Tryd.ntmps148
  go_wp2
  exact bodyPost_ret (v := .agg #[.int .i64 1, .int .i64 0]) (by simp [results, Tryd.results148, go_sem]) rfl ⟨rfl, by go_grown⟩

set_option maxHeartbeats 1000000 in
theorem stepIn_6_1 (w : World) (hW : StepsW w) : Calls Tryd.prog 148 #[.int .i64 6, .int .i64 1] w fun e w' => e = .returned (.agg #[.int .i64 0, .int .i64 1]) ∧ Below w.heap.size w w' := by
  have hx : w.cell? ⟨2, 2, none⟩ = some (.int .i64 0) ∧ w.cell? ⟨2, 3, none⟩ = some (.int .i64 1) := hW.tr 1 (by omega)
  have t0 := cellB (w' := w.alloc (.cells #[.int .i64 0, .int .i64 0] 108)) (by go_grown) hx.1
  have t1 := cellB (w' := w.alloc (.cells #[.int .i64 0, .int .i64 0] 108)) (by go_grown) hx.2
  clear hx hW
  go_enter Tryd.func148, Tryd.ntmps148
  go_wp2
  exact bodyPost_ret (v := .agg #[.int .i64 0, .int .i64 1]) (by simp [results, Tryd.results148, go_sem]) rfl ⟨rfl, by go_grown⟩

set_option maxHeartbeats 1000000 in
theorem stepIn_6_2 (w : World) (hW : StepsW w) : Calls Tryd.prog 148 #[.int .i64 6, .int .i64 2] w fun e w' => e = .returned (.agg #[.int .i64 (-1), .int .i64 1]) ∧ Below w.heap.size w w' := by
  have hx : w.cell? ⟨2, 4, none⟩ = some (.int .i64 (-1)) ∧ w.cell? ⟨2, 5, none⟩ = some (.int .i64 1) := hW.tr 2 (by omega)
  have t0 := cellB (w' := w.alloc (.cells #[.int .i64 0, .int .i64 0] 108)) (by go_grown) hx.1
  have t1 := cellB (w' := w.alloc (.cells #[.int .i64 0, .int .i64 0] 108)) (by go_grown) hx.2
  clear hx hW
  go_enter Tryd.func148, Tryd.ntmps148
  go_wp2
  exact bodyPost_ret (v := .agg #[.int .i64 (-1), .int .i64 1]) (by simp [results, Tryd.results148, go_sem]) rfl ⟨rfl, by go_grown⟩

set_option maxHeartbeats 1000000 in
theorem stepIn_6_3 (w : World) (hW : StepsW w) : Calls Tryd.prog 148 #[.int .i64 6, .int .i64 3] w fun e w' => e = .returned (.agg #[.int .i64 (-1), .int .i64 0]) ∧ Below w.heap.size w w' := by
  have hx : w.cell? ⟨2, 6, none⟩ = some (.int .i64 (-1)) ∧ w.cell? ⟨2, 7, none⟩ = some (.int .i64 0) := hW.tr 3 (by omega)
  have t0 := cellB (w' := w.alloc (.cells #[.int .i64 0, .int .i64 0] 108)) (by go_grown) hx.1
  have t1 := cellB (w' := w.alloc (.cells #[.int .i64 0, .int .i64 0] 108)) (by go_grown) hx.2
  clear hx hW
  go_enter Tryd.func148, Tryd.ntmps148
  go_wp2
  exact bodyPost_ret (v := .agg #[.int .i64 (-1), .int .i64 0]) (by simp [results, Tryd.results148, go_sem]) rfl ⟨rfl, by go_grown⟩

set_option maxHeartbeats 1000000 in
theorem stepIn_6_4 (w : World) (hW : StepsW w) : Calls Tryd.prog 148 #[.int .i64 6, .int .i64 4] w fun e w' => e = .returned (.agg #[.int .i64 0, .int .i64 (-1)]) ∧ Below w.heap.size w w' := by
  have hx : w.cell? ⟨2, 8, none⟩ = some (.int .i64 0) ∧ w.cell? ⟨2, 9, none⟩ = some (.int .i64 (-1)) := hW.tr 4 (by omega)
  have t0 := cellB (w' := w.alloc (.cells #[.int .i64 0, .int .i64 0] 108)) (by go_grown) hx.1
  have t1 := cellB (w' := w.alloc (.cells #[.int .i64 0, .int .i64 0] 108)) (by go_grown) hx.2
  clear hx hW
  go_enter Tryd.func148, Tryd.ntmps148
  go_wp2
  exact bodyPost_ret (v := .agg #[.int .i64 0, .int .i64 (-1)]) (by simp [results, Tryd.results148, go_sem]) rfl ⟨rfl, by go_grown⟩

set_option maxHeartbeats 1000000 in
theorem stepIn_6_5 (w : World) (hW : StepsW w) : Calls Tryd.prog 148 #[.int .i64 6, .int .i64 5] w fun e w' => e = .returned (.agg #[.int .i64 1, .int .i64 (-1)]) ∧ Below w.heap.size w w' := by
  have hx : w.cell? ⟨2, 10, none⟩ = some (.int .i64 1) ∧ w.cell? ⟨2, 11, none⟩ = some (.int .i64 (-1)) := hW.tr 5 (by omega)
  have t0 := cellB (w' := w.alloc (.cells #[.int .i64 0, .int .i64 0] 108)) (by go_grown) hx.1
  have t1 := cellB (w' := w.alloc (.cells #[.int .i64 0, .int .i64 0] 108)) (by go_grown) hx.2
  clear hx hW
  go_enter Tryd.func148, Tryd.ntmps148
  go_wp2
  exact bodyPost_ret (v := .agg #[.int .i64 1, .int .i64 (-1)]) (by simp [results, Tryd.results148, go_sem]) rfl ⟨rfl, by go_grown⟩

theorem stepIn_any (g d : Int) (w : World) (hg : isG g) (h0 : 0 ≤ d) (h1 : d < g) (hW : StepsW w) : Calls Tryd.prog 148 #[.int .i64 g, .int .i64 d] w fun e w' => e = .returned (.agg #[.int .i64 (stepG' g d).1, .int .i64 (stepG' g d).2]) ∧ Below w.heap.size w w' := by
  rcases hg with rfl | rfl
  · rcases (show d = 0 ∨ d = 1 ∨ d = 2 ∨ d = 3 by omega) with rfl | rfl | rfl | rfl
    · exact stepIn_4_0 w hW
    · exact stepIn_4_1 w hW
    · exact stepIn_4_2 w hW
    · exact stepIn_4_3 w hW
  · rcases (show d = 0 ∨ d = 1 ∨ d = 2 ∨ d = 3 ∨ d = 4 ∨ d = 5 by omega) with rfl | rfl | rfl | rfl | rfl | rfl
    · exact stepIn_6_0 w hW
    · exact stepIn_6_1 w hW
    · exact stepIn_6_2 w hW
    · exact stepIn_6_3 w hW
    · exact stepIn_6_4 w hW
    · exact stepIn_6_5 w hW

set_option maxHeartbeats 2000000 in
theorem after_F (g x y d dx dy X Y : Int) (w : World) (hW : StepsW w) (hS : ∀ W, StepsW W → Calls Tryd.prog 148 #[.int .i64 g, .int .i64 d] W fun e w' => e = .returned (.agg #[.int .i64 dx, .int .i64 dy]) ∧ Below W.heap.size W w')
    (e1 : IntKind.i64.wrap (x + dx) = X) (e2 : IntKind.i64.wrap (y + dy) = Y) :
    Calls Tryd.prog 126 #[.agg #[.int .i64 x, .int .i64 y, .int .i64 d], .int .i64 g, .int .u8 70] w fun e w' => e = .returned (.tuple #[.agg #[.int .i64 X, .int .i64 Y, .int .i64 d], .bool true]) ∧ Below w.heap.size w w' := by
  have HS := Lib.hid hS
  have HW := Lib.hid hW
  clear hS hW
  go_enter Tryd.func126, Tryd.ntmps126
  go_wp2_with (first | (go_at_call 148; (refine (HS.out _ (HW.out.later (by go_grown))).mono ?_); rintro e w1 ⟨rfl, hb1⟩; go_loud ((have p0 : w1.cell? ⟨w.heap.size, 0, none⟩ = some (.int .i64 x) := cellB hb1 (by go_simp)); (have fp0 : w1.frozen? ⟨w.heap.size, 0, none⟩ = false := frozenB hb1 (by simp; try omega) (by go_simp)); (have p1 : w1.cell? ⟨w.heap.size, 1, none⟩ = some (.int .i64 y) := cellB hb1 (by go_simp)); (have fp1 : w1.frozen? ⟨w.heap.size, 1, none⟩ = false := frozenB hb1 (by simp; try omega) (by go_simp)); (have p2 : w1.cell? ⟨w.heap.size, 2, none⟩ = some (.int .i64 d) := cellB hb1 (by go_simp)); (have fp2 : w1.frozen? ⟨w.heap.size, 2, none⟩ = false := frozenB hb1 (by simp; try omega) (by go_simp)); (have q0 : w1.cell? ⟨w.heap.size + 1, 0, none⟩ = some (.int .i64 0) := cellB hb1 (by go_simp)); (have fq0 : w1.frozen? ⟨w.heap.size + 1, 0, none⟩ = false := frozenB hb1 (by simp; try omega) (by go_simp)); (have q1 : w1.cell? ⟨w.heap.size + 1, 1, none⟩ = some (.int .i64 0) := cellB hb1 (by go_simp)); (have fq1 : w1.frozen? ⟨w.heap.size + 1, 1, none⟩ = false := frozenB hb1 (by simp; try omega) (by go_simp)); (have q2 : w1.cell? ⟨w.heap.size + 1, 2, none⟩ = some (.int .i64 0) := cellB hb1 (by go_simp)); (have fq2 : w1.frozen? ⟨w.heap.size + 1, 2, none⟩ = false := frozenB hb1 (by simp; try omega) (by go_simp)); (have hz1 : w.heap.size + 2 ≤ w1.heap.size := by (have := hb1.size; simp at this; omega)); (have hq : Below w1.heap.size w1 (w1.alloc (.cells #[.int .i64 dx, .int .i64 dy] 108)) := (Below.refl _ _).alloc (Nat.le_refl _) _); (have ap0 := cellB hq p0); (have bp0 := frozenB hq (by omega) fp0); (have ap1 := cellB hq p1); (have bp1 := frozenB hq (by omega) fp1); (have ap2 := cellB hq p2); (have bp2 := frozenB hq (by omega) fp2); (have aq0 := cellB hq q0); (have bq0 := frozenB hq (by omega) fq0); (have aq1 := cellB hq q1); (have bq1 := frozenB hq (by omega) fq1); (have aq2 := cellB hq q2); (have bq2 := frozenB hq (by omega) fq2); (have hB1 : Below w.heap.size w w1 := Below.trans (by go_grown) (hb1.mono (by simp; omega))))))
  refine bodyPost_ret (v := .tuple #[.agg #[.int .i64 X, .int .i64 Y, .int .i64 d], .bool true]) (by simp [results, Tryd.results126, go_sem, *]) rfl ⟨rfl, ?_⟩
  go_grown

set_option maxHeartbeats 2000000 in
theorem after_L (g x y d D : Int) (w : World) (g0 : ¬ g = 0) (e1 : IntKind.i64.wrap (d + 1) = d + 1) (e2 : Int.tmod (d + 1) g = D) (e3 : IntKind.i64.wrap D = D) :
    Calls Tryd.prog 126 #[.agg #[.int .i64 x, .int .i64 y, .int .i64 d], .int .i64 g, .int .u8 76] w fun e w' => e = .returned (.tuple #[.agg #[.int .i64 x, .int .i64 y, .int .i64 D], .bool true]) ∧ Below w.heap.size w w' := by
  go_enter Tryd.func126, Tryd.ntmps126
  go_wp2
  exact bodyPost_ret (v := .tuple #[.agg #[.int .i64 x, .int .i64 y, .int .i64 D], .bool true]) (by simp [results, Tryd.results126, go_sem]) rfl ⟨rfl, by go_grown⟩

set_option maxHeartbeats 2000000 in
theorem after_R (g x y d D : Int) (w : World) (g0 : ¬ g = 0) (e0 : IntKind.i64.wrap (d + g) = d + g) (e1 : IntKind.i64.wrap (d + g - 1) = d + g - 1) (e2 : Int.tmod (d + g - 1) g = D) (e3 : IntKind.i64.wrap D = D) :
    Calls Tryd.prog 126 #[.agg #[.int .i64 x, .int .i64 y, .int .i64 d], .int .i64 g, .int .u8 82] w fun e w' => e = .returned (.tuple #[.agg #[.int .i64 x, .int .i64 y, .int .i64 D], .bool true]) ∧ Below w.heap.size w w' := by
  go_enter Tryd.func126, Tryd.ntmps126
  go_wp2
  exact bodyPost_ret (v := .tuple #[.agg #[.int .i64 x, .int .i64 y, .int .i64 D], .bool true]) (by simp [results, Tryd.results126, go_sem]) rfl ⟨rfl, by go_grown⟩

/-- The bytes of the signs. -/
def signB (j : Nat) : Int := if j = 0 then 70 else if j = 1 then 76 else 82

theorem after_any (g : Int) (p : Tri) (j m : Nat) (w : World) (hg : isG g) (hp : okP g m p) (hm : m ≤ 10) (hj : j < 3) (hW : StepsW w) :
    Calls Tryd.prog 126 #[.agg #[.int .i64 p.1, .int .i64 p.2.1, .int .i64 p.2.2], .int .i64 g, .int .u8 (signB j)] w fun e w' => e = .returned (.tuple #[.agg #[.int .i64 (nxtP g j p).1, .int .i64 (nxtP g j p).2.1, .int .i64 (nxtP g j p).2.2], .bool true]) ∧ Below w.heap.size w w' := by
  obtain ⟨⟨h1, h2⟩, ⟨h3, h4⟩, h5, h6⟩ := hp
  have hs := step_small hg h5 h6
  have hg4 : 0 < g ∧ g ≤ 6 := by rcases hg with rfl | rfl <;> omega
  have q1 := Int.emod_nonneg (p.2.2 + 1) (show g ≠ 0 by omega)
  have q2 := Int.emod_lt_of_pos (p.2.2 + 1) hg4.1
  have q3 := Int.emod_nonneg (p.2.2 + g - 1) (show g ≠ 0 by omega)
  have q4 := Int.emod_lt_of_pos (p.2.2 + g - 1) hg4.1
  match j, hj with
  | 0, _ => exact after_F g p.1 p.2.1 p.2.2 _ _ _ _ w hW (fun W hW => stepIn_any g p.2.2 W hg h5 h6 hW) (wrapX _ (by omega)) (wrapX _ (by omega))
  | 1, _ => exact after_L g p.1 p.2.1 p.2.2 ((p.2.2 + 1) % g) w (by omega) (wrapX _ (by omega)) (Int.tmod_eq_emod_of_nonneg (by omega)) (wrapX _ (by omega))
  | 2, _ => exact after_R g p.1 p.2.1 p.2.2 ((p.2.2 + g - 1) % g) w (by omega) (wrapX _ (by omega)) (wrapX _ (by omega)) (Int.tmod_eq_emod_of_nonneg (by omega)) (wrapX _ (by omega))

end Go.Proofs.YtbgcbokddldmkaaDoor
