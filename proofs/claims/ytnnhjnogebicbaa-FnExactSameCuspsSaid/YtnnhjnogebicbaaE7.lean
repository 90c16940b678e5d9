/- Gears: wheels with the same cusps: arrays of marks held against each other. -/
import Derived.Test.YtnnhjnogebicbaaE6
import Derived.Deep.WholeRow
import Derived.Laws.CopyOwn
namespace Go.Proofs.Ytnnhjnogebicbaa
open Go.RowKit
set_option linter.unusedVariables false

/-- The array L lies in block g. -/
def ArrB (w : World) (g : Nat) (L : List Bool) : Prop := w.heap[g]? = some (.cells (boolCells L) 56 (0, 0))

theorem ArrB.cell {w : World} {g : Nat} {L : List Bool} (h : ArrB w g L) (q : Nat) (hq : q < L.length) : w.cell? ⟨g, q, none⟩ = some (.bool (L.getD q false)) :=
  (cell_of_row w g q _ _ (0, 0) h).trans (boolCells_get L q hq)

theorem ArrB.frozen {w : World} {g : Nat} {L : List Bool} (h : ArrB w g L) (q : Nat) : w.frozen? ⟨g, q, none⟩ = false := frozen_of_row w g q _ _ h

theorem ArrB.stored {w : World} {g : Nat} {L : List Bool} (h : ArrB w g L) (j : Nat) (x : Bool) : ArrB (w.setCell ⟨g, j, none⟩ (.bool x)) g (L.set j x) := by
  unfold ArrB
  rw [heap_setCell_same w g j _ _ _ h, boolCells_set]

theorem ArrB.only {w w' : World} {B T g : Nat} {L : List Bool} (h : ArrB w g L) (ho : Only B T w w') (hg : g < B ∨ T ≤ g) : ArrB w' g L :=
  (ho.block g (Array.getElem?_eq_some_iff.1 h).1 (by omega)).trans h

theorem info_marks : (Try.prog.info? 56).map (·.size) = some 300 := by kernel_rfl

theorem zero_marks : (Try.prog.info? 56).map (·.zero) = some (some (.agg (boolCells (List.replicate 300 false)))) := by kernel_rfl

theorem zero_agg {P : Program} {t : TypeId} {cs : Array Value} (hz : (P.info? t).map (·.zero) = some (some (.agg cs))) (W : World) :
    (zeroValue t).run P W = .ok (.agg cs) W := by
  obtain ⟨i, hi, hz⟩ := Option.map_eq_some_iff.1 hz
  simp [zeroValue, typeInfo, Sem.run_bind, hi, hz]

theorem only_set {B T b : Nat} {w w' : World} (h : Only B T w w') (hb : B ≤ b ∧ b < T) (j : Nat) (u : Value) : Only B T w (w'.setCell ⟨b, j, none⟩ u) :=
  h.trans ⟨rfl, rfl, rfl, (by show w'.heap.size ≤ (w'.heap.modify _ _).size; rw [Array.size_modify]; exact Nat.le_refl _), fun k _ hn => Below.heap_setCell _ _ _ k (fun e => hn (by rw [e]; exact hb))⟩

set_option maxHeartbeats 2000000 in
set_option maxRecDepth 100000 in
theorem marksOf_any (r k g a b : Nat) (w : World) (H : Gear r k g a b) :
    Calls Try.prog 58 #[.int .i64 r, .int .i64 k] w fun e w' => e = .returned (.agg (boolCells (markT (cuspC r k a)))) ∧ Below w.heap.size w w' := by
  have h := H.1
  have r3 : r ≤ 300 := by omega
  have HP := Lib.hid (fun W => iCuspsOf_yes r k g a b W H)
  have a1 : a ≤ 300 := H.2.2.2.2.2.2.1
  have hr0 : 0 < r := by omega
  clear H h
  have HZ := Lib.hid (show boolCells (markT (cuspC r k 0)) = boolCells (List.replicate 300 false) by rw [cuspC_zero, markT_none])
  have hal := zero_agg (P := Try.prog) zero_marks
  go_enter Try.func58, Try.ntmps58
  go_wp2_with (go_at_call 35; (refine (HP.out _).mono ?_); rintro e w1 ⟨v, rfl, hI, hb⟩; obtain ⟨a0, cap, g', rfl, ha, _, _, hbl, hc, _⟩ := hI.1.view; rw [cuspL_length] at ha hbl hc ⊢; have HA := Lib.hid ha; have HC := Lib.hid hc; have HBL := Lib.hid hbl; clear hI ha hc hbl)
  have n1 : w.heap.size + 2 ≤ w1.heap.size := by have := hb.size; simp at this; omega
  have Z0 : ArrB w1 w.heap.size (List.replicate 300 false) := (hb.block _ (by simp; omega)).trans (heap_alloc2_old w _ _)
  have Z1 : ArrB w1 (w.heap.size + 1) (List.replicate 300 false) := (hb.block _ (by simp)).trans (heap_alloc2_new w _ _)
  have B1 : Below w.heap.size w w1 := Below.trans (by go_grown) (hb.mono (by simp; omega))
  have HZ0 := Lib.hid Z0
  have HZ1 := Lib.hid (show ArrB w1 (w.heap.size + 1) (markT (cuspC r k 0)) by rw [cuspC_zero, markT_none]; exact Z1)
  clear Z0 Z1 hb
  go_loopw [18] (fun i wr => ∃ j : Nat, j ≤ a ∧ i = .int .i64 j ∧ ArrB wr (w.heap.size + 1) (markT (cuspC r k j)) ∧ Only (w.heap.size + 1) (w.heap.size + 2) w1 wr) (fun i _ => a - (intOf i).toNat)
  case atStart => exact ⟨0, by omega, rfl, HZ1.out, Only.refl _ _ _⟩
  case round =>
    obtain ⟨j, hj, rfl, hM, hO⟩ := hrel
    by_cases hlt : j < a
    · obtain rfl := HA.out (by omega)
      obtain ⟨m, hm⟩ : ∃ m, j * k % r = m := ⟨_, rfl⟩
      have m1 : m < r := by rw [← hm]; exact Nat.mod_lt _ hr0
      have hc0 := HC.out j hlt
      rw [cuspL_get r k a j hlt, hm] at hc0
      have hg := HBL.out (by omega)
      simp at hg
      have cc := hO.cell (b := g') (o := j) (by omega) hc0
      have HS := Lib.hid (show ArrB (wr.setCell ⟨w.heap.size + 1, m, none⟩ (.bool true)) (w.heap.size + 1) (markT (cuspC r k (j + 1))) by
        have := hM.stored m true
        rw [markT_set] at this
        rw [cuspC_succ, hm]
        exact this)
      have HO := Lib.hid (only_set hO (b := w.heap.size + 1) (by omega) m (.bool true))
      have d0 := hM.cell m (by rw [markT_length]; omega)
      have f0 := hM.frozen m
      generalize (markT (cuspC r k j)).getD m false = old at d0
      have m2 : (m : Int) < 300 := by omega
      clear hM hO hc0 hm
      go_wp2
      go_roundw
      case rel => exact ⟨j + 1, by omega, by go_num, HS.out, HO.out⟩
      case measure => simp [intOf]; omega
    · obtain rfl : j = a := by omega
      have HG : Hid (wr.heap[w.heap.size + 1]? = some (.cells (boolCells (markT (cuspC r k j))) 56 (0, 0))) := Lib.hid hM
      have HG0 : Hid (wr.heap[w.heap.size]? = some (.cells (boolCells (List.replicate 300 false)) 56 (0, 0))) := Lib.hid (HZ0.out.only hO (by omega))
      have hl := markT_length (cuspC r k j)
      have HI : Hid ((Try.prog.info? 56).map (·.size) = some (boolCells (markT (cuspC r k j))).size) := Lib.hid (by rw [boolCells_size, hl]; exact info_marks)
      have HO : Hid ((boolCells (List.replicate 300 false)).size = (boolCells (markT (cuspC r k j))).size) := Lib.hid (by rw [boolCells_size, boolCells_size, hl]; simp)
      have HAo := Lib.hid (boolCells_one (markT (cuspC r k j)))
      have HR := Lib.hid (setRow_heap wr w.heap.size _ (boolCells (markT (cuspC r k j))) _ _ HG0.out)
      have HB := Lib.hid (below_setRow (B := w.heap.size) (g := w.heap.size) (w0 := w) (w := wr) (B1.trans (hO.below (by omega) (by omega))) (Nat.le_refl _) (boolCells (markT (cuspC r k j))))
      clear hal HZ hM
      generalize hC : boolCells (markT (cuspC r k j)) = C at HG HI HO HAo HR HB ⊢
      have HCC := Lib.hid hC
      clear hC
      generalize boolCells (List.replicate 300 false) = Z at HG0 HO
      go_wp2_with (first
        | (with_reducible refine wpList_load_row rfl 56 (.tmp 5) rfl (w.heap.size + 1) rfl 56 C (0, 0) (.array 300 4) HG.out Try.underlying56 rfl HI.out ?_)
        | (with_reducible refine wpList_store_row rfl 56 (.tmp 4) (.tmp 25) rfl w.heap.size C rfl rfl 56 Z HG0.out HI.out HO.out HAo.out ?_))
      exact bodyPost_ret (results_cell_row (P := Try.prog) (fn := Try.f58) (p := 4) (ty := 56) rfl _ _ w.heap.size _ _ _ (.array 300 4) rfl HR.out Try.underlying56 rfl HI.out) rfl ⟨by rw [HCC.out], HB.out⟩

theorem cells_bool : Try.prog.cellsOf 4 = 1 := by kernel_rfl
theorem info_bool : (Try.prog.info? 4).isSome = true := by kernel_rfl

theorem marks_eql (c d : Nat → Bool) (b : Bool) (hb : decide (markT c = markT d) = b) (W : World) :
    (binOp .eql 56 (.agg (boolCells (markT c))) (.agg (boolCells (markT d)))).run Try.prog W = .ok (.bool b) W := by
  obtain ⟨i, hi⟩ := Option.isSome_iff_exists.1 info_bool
  exact run_eql_bools (P := Try.prog) W Try.underlying56 hi Try.underlying4 cells_bool (markT c) (markT d) (markT_length c) (markT_length d) b hb

set_option maxHeartbeats 400000 in
theorem iSameCusps_yes (r k g a b k' g' a' b' : Nat) (t : Bool) (w : World) (H : Gear r k g a b) (H' : Gear r k' g' a' b') (ht : decide (g = g') = t) :
    Calls Try.prog 39 #[.int .i64 r, .int .i64 k, .int .i64 k'] w fun e w' => e = .returned (.tuple #[.bool t, .bool true]) ∧ Below w.heap.size w w' := by
  have h := H.1
  have h' := H'.1
  have HM := Lib.hid (fun W => marksOf_any r k g a b W H)
  have HM' := Lib.hid (fun W => marksOf_any r k' g' a' b' W H')
  have hq := marks_eql (cuspC r k a) (cuspC r k' a') t (by rw [← ht]; exact decide_eq_decide.2 (same_marks H H'))
  clear H H' ht
  generalize boolCells (markT (cuspC r k a)) = C at HM hq
  generalize boolCells (markT (cuspC r k' a')) = C' at HM' hq
  go_enter Try.func39, Try.ntmps39
  go_wp2_with (first
    | (go_at_call 42; (with_reducible refine (isGear_yes _ _ _ h).mono ?_); rintro e w1 ⟨rfl, rfl⟩) | (go_at_call 42; (with_reducible refine (isGear_yes _ _ _ h').mono ?_); rintro e w1 ⟨rfl, rfl⟩)
    | (go_at_call 58; (with_reducible refine (HM.out _).mono ?_); rintro e w1 ⟨rfl, hb1⟩)
    | (go_at_call 58; (with_reducible refine (HM'.out _).mono ?_); rintro e w2 ⟨rfl, hb2⟩))
  go_ret2
  exact ⟨rfl, hb1.trans (hb2.mono hb1.size)⟩

set_option maxHeartbeats 400000 in
theorem sSameCusps_yes (r k g a b k' g' a' b' : Nat) (t : Bool) (w : World) (H : Gear r k g a b) (H' : Gear r k' g' a' b') (ht : decide (g = g') = t) :
    Calls Try.prog 38 #[.int .i64 r, .int .i64 k, .int .i64 k'] w fun e w' => e = .returned (.tuple #[.bool t, .bool true]) ∧ Below w.heap.size w w' := by
  have h := H.1
  have h' := H'.1
  have HG := Lib.hid H.2.1
  have HG' := Lib.hid H'.2.1
  have ht' : ((g : Int) == (g' : Int)) = t := by
    rw [← ht, Bool.eq_iff_iff, beq_iff_eq, decide_eq_true_eq]
    omega
  clear H H' ht
  go_enter Try.func38, Try.ntmps38
  go_wp2_with (first
    | (go_at_call 40; (with_reducible refine (geGood_yes _ _ _ h).mono ?_); rintro e w1 ⟨rfl, rfl⟩) | (go_at_call 40; (with_reducible refine (geGood_yes _ _ _ h').mono ?_); rintro e w1 ⟨rfl, rfl⟩)
    | (go_at_call 41; (with_reducible refine (srCommon_any r k _ (by omega) (by omega)).mono ?_); rintro e w1 ⟨rfl, hb1⟩; rw [HG.out])
    | (go_at_call 41; (with_reducible refine (srCommon_any r k' _ (by omega) (by omega)).mono ?_); rintro e w2 ⟨rfl, hb2⟩; rw [HG'.out]))
  go_ret2
  exact ⟨rfl, hb1.trans (hb2.mono hb1.size)⟩

set_option maxHeartbeats 400000 in
theorem iSameCusps_no (r k k' : Int) (w : World) (h : ¬ (((3 ≤ r ∧ r ≤ 300) ∧ (1 ≤ k ∧ k < r)) ∧ ((3 ≤ r ∧ r ≤ 300) ∧ (1 ≤ k' ∧ k' < r)))) :
    Calls Try.prog 39 #[.int .i64 r, .int .i64 k, .int .i64 k'] w fun e w' => e = .returned (.tuple #[.bool false, .bool false]) ∧ Below w.heap.size w w' := by
  by_cases h1 : (3 ≤ r ∧ r ≤ 300) ∧ (1 ≤ k ∧ k < r)
  · have h2 : ¬ ((3 ≤ r ∧ r ≤ 300) ∧ (1 ≤ k' ∧ k' < r)) := fun g => h ⟨h1, g⟩
    clear h
    go_enter Try.func39, Try.ntmps39
    go_wp2_with (first | (go_at_call 42; (with_reducible refine (isGear_yes _ _ _ h1).mono ?_); rintro e w1 ⟨rfl, rfl⟩) | (go_at_call 42; (with_reducible refine (isGear_no _ _ _ h2).mono ?_); rintro e w1 ⟨rfl, rfl⟩))
    go_ret2
    exact ⟨rfl, Below.refl _ _⟩
  · clear h
    go_enter Try.func39, Try.ntmps39
    go_wp2_with (first | (go_at_call 42; (with_reducible refine (isGear_no _ _ _ h1).mono ?_); rintro e w1 ⟨rfl, rfl⟩))
    go_ret2
    exact ⟨rfl, Below.refl _ _⟩

set_option maxHeartbeats 400000 in
theorem sSameCusps_no (r k k' : Int) (w : World) (h : ¬ (((3 ≤ r ∧ r ≤ 300) ∧ (1 ≤ k ∧ k < r)) ∧ ((3 ≤ r ∧ r ≤ 300) ∧ (1 ≤ k' ∧ k' < r)))) :
    Calls Try.prog 38 #[.int .i64 r, .int .i64 k, .int .i64 k'] w fun e w' => e = .returned (.tuple #[.bool false, .bool false]) ∧ Below w.heap.size w w' := by
  by_cases h1 : (3 ≤ r ∧ r ≤ 300) ∧ (1 ≤ k ∧ k < r)
  · have h2 : ¬ ((3 ≤ r ∧ r ≤ 300) ∧ (1 ≤ k' ∧ k' < r)) := fun g => h ⟨h1, g⟩
    clear h
    go_enter Try.func38, Try.ntmps38
    go_wp2_with (first | (go_at_call 40; (with_reducible refine (geGood_yes _ _ _ h1).mono ?_); rintro e w1 ⟨rfl, rfl⟩) | (go_at_call 40; (with_reducible refine (geGood_no _ _ _ h2).mono ?_); rintro e w1 ⟨rfl, rfl⟩))
    go_ret2
    exact ⟨rfl, Below.refl _ _⟩
  · clear h
    go_enter Try.func38, Try.ntmps38
    go_wp2_with (first | (go_at_call 40; (with_reducible refine (geGood_no _ _ _ h1).mono ?_); rintro e w1 ⟨rfl, rfl⟩))
    go_ret2
    exact ⟨rfl, Below.refl _ _⟩

theorem walk_SameCusps (r k k' : Int) (w : World) (_ : (Lit.int .i64 r).wf = true) (_ : (Lit.int .i64 k).wf = true) (_ : (Lit.int .i64 k').wf = true) :
    Calls Try.prog 13 #[.int .i64 r, .int .i64 k, .int .i64 k'] w fun e w' => e = .returned (.bool true) ∧ Below w.heap.size w w' := by
  by_cases h : ((3 ≤ r ∧ r ≤ 300) ∧ (1 ≤ k ∧ k < r)) ∧ ((3 ≤ r ∧ r ≤ 300) ∧ (1 ≤ k' ∧ k' < r))
  · obtain ⟨h1, h2⟩ := h
    obtain ⟨r1, k1, g, a, b, rfl, rfl, H⟩ := gear_of r k h1
    obtain ⟨r2, k2, g', a', b', e, rfl, H'⟩ := gear_of r1 k' h2
    obtain rfl : r1 = r2 := by omega
    obtain ⟨t, ht⟩ : ∃ t, decide (g = g') = t := ⟨_, rfl⟩
    have HS := Lib.hid (fun W => sSameCusps_yes _ _ _ _ _ _ _ _ _ t W H H' ht)
    have HI := Lib.hid (fun W => iSameCusps_yes _ _ _ _ _ _ _ _ _ t W H H' ht)
    clear H H' ht h1 h2
    cases t
    all_goals
      go_enter Try.func13, Try.ntmps13
      go_wp2_with (first | (go_at_call 38; (with_reducible refine (HS.out _).mono ?_); rintro e w1 ⟨rfl, hb1⟩) | (go_at_call 39; (with_reducible refine (HI.out _).mono ?_); rintro e w2 ⟨rfl, hb2⟩))
      go_ret
      exact ⟨rfl, hb1.trans (hb2.mono hb1.size)⟩
  · go_enter Try.func13, Try.ntmps13
    go_wp2_with (first | (go_at_call 38; (with_reducible refine (sSameCusps_no _ _ _ _ h).mono ?_); rintro e w1 ⟨rfl, hb1⟩) | (go_at_call 39; (with_reducible refine (iSameCusps_no _ _ _ _ h).mono ?_); rintro e w2 ⟨rfl, hb2⟩))
    go_ret
    exact ⟨rfl, hb1.trans (hb2.mono hb1.size)⟩

end Go.Proofs.Ytnnhjnogebicbaa
