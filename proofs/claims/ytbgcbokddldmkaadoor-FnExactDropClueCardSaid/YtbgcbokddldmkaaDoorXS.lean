/- DropClue: both sides, the law. -/
import Derived.Test.YtbgcbokddldmkaaDoorXQ
import Derived.Test.YtbgcbokddldmkaaDoorXZ
import Derived.Test.YtbgcbokddldmkaaDoorX7
namespace Go.Proofs.YtbgcbokddldmkaaDoor
open Go.RowKit
set_option linter.unusedVariables false

set_option maxHeartbeats 1000000 in
theorem iDropClue_no1 (u : Value) (xs : List Tri) (w : World) (hx : SrcT w u xs) (k : Int) (hW : ClueW w) (hP : ¬ puzzleP xs) : Calls Tryd.prog 24 #[.agg #[u], .int .i64 k] w (GivesZ w [] false) := by
  have HX := Lib.hid hx
  have HW := Lib.hid hW
  have HP := Lib.hid (show decide (puzzleP xs) = false from decide_eq_false hP)
  obtain ⟨a0, cap, g, off, rfl, ha, hcap, hcm, _⟩ := hx.form
  unfold maxLen at hcm
  clear hx hW hP ha
  go_enter Tryd.func24, Tryd.ntmps24
  go_wp2_with (first | (go_at_call 62; (refine (iIsPuzzle_any _ xs false _ (HX.out.later (by go_grown)) HP.out (HW.out.later (by go_grown))).mono ?_); rintro e w1 ⟨rfl, hb1⟩; (have c0 : w1.cell? ⟨w.heap.size, 0, none⟩ = some (.slice a0 xs.length cap) := cellB hb1 (by go_simp)); (have c2 : w1.cell? ⟨w.heap.size + 1, 0, none⟩ = some (.slice none 0 0) := cellB hb1 (by go_simp)); (have f2 : w1.frozen? ⟨w.heap.size + 1, 0, none⟩ = false := frozenB hb1 (by simp) (by go_simp)); (have hB1 : Below w.heap.size w w1 := Below.trans (by go_grown) (hb1.mono (by first | omega | (simp; done) | (simp; omega)))); have hz1 := hB1.size; (have hzz : w.heap.size + 1 < w1.heap.size := by have := hb1.size; simp at this; omega)))
  refine bodyPost_ret (v := .tuple #[.agg #[.slice none 0 0], .bool false]) (by simp [results, Tryd.results24, go_sem, c2]) rfl ⟨_, rfl, ?_, ?_⟩
  · exact ⟨World.ownsRow_nil _ _ _ _, fun k hk => by simp [Value.ownBlock] at hk⟩
  · first | exact hB1.setC _ _ (by show _ ≤ w.heap.size + 1; omega) | exact hB1

set_option maxHeartbeats 1000000 in
theorem sDropClue_no1 (u : Value) (xs : List Tri) (w : World) (hx : SrcT w u xs) (k : Int) (hW : ClueW w) (hP : ¬ puzzleP xs) : Calls Tryd.prog 23 #[.agg #[u], .int .i64 k] w (GivesZ w [] false) := by
  have HX := Lib.hid hx
  have HW := Lib.hid hW
  have HP := Lib.hid (show decide (puzzleP xs) = false from decide_eq_false hP)
  obtain ⟨a0, cap, g, off, rfl, ha, hcap, hcm, _⟩ := hx.form
  unfold maxLen at hcm
  clear hx hW hP ha
  go_enter Tryd.func23, Tryd.ntmps23
  go_wp2_with (first | (go_at_call 53; (refine (pzGood_any _ xs false _ (HX.out.later (by go_grown)) HP.out).mono ?_); rintro e w1 ⟨rfl, hb1⟩; (have c0 : w1.cell? ⟨w.heap.size, 0, none⟩ = some (.slice a0 xs.length cap) := cellB hb1 (by go_simp)); (have c2 : w1.cell? ⟨w.heap.size + 1, 0, none⟩ = some (.slice none 0 0) := cellB hb1 (by go_simp)); (have f2 : w1.frozen? ⟨w.heap.size + 1, 0, none⟩ = false := frozenB hb1 (by simp) (by go_simp)); (have hB1 : Below w.heap.size w w1 := Below.trans (by go_grown) (hb1.mono (by first | omega | (simp; done) | (simp; omega)))); have hz1 := hB1.size; (have hzz : w.heap.size + 1 < w1.heap.size := by have := hb1.size; simp at this; omega)))
  refine bodyPost_ret (v := .tuple #[.agg #[.slice none 0 0], .bool false]) (by simp [results, Tryd.results23, go_sem, c2]) rfl ⟨_, rfl, ?_, ?_⟩
  · exact ⟨World.ownsRow_nil _ _ _ _, fun k hk => by simp [Value.ownBlock] at hk⟩
  · first | exact hB1.setC _ _ (by show _ ≤ w.heap.size + 1; omega) | exact hB1

set_option maxHeartbeats 1000000 in
theorem iDropClue_no2 (u : Value) (xs : List Tri) (w : World) (hx : SrcT w u xs) (k : Int) (hW : ClueW w) (hP : puzzleP xs) (hk : k < 0) : Calls Tryd.prog 24 #[.agg #[u], .int .i64 k] w (GivesZ w [] false) := by
  have HX := Lib.hid hx
  have HW := Lib.hid hW
  have HP := Lib.hid (show decide (puzzleP xs) = true from decide_eq_true hP)
  obtain ⟨a0, cap, g, off, rfl, ha, hcap, hcm, _⟩ := hx.form
  unfold maxLen at hcm
  clear hx hW hP ha
  go_enter Tryd.func24, Tryd.ntmps24
  go_wp2_with (first | (go_at_call 62; (refine (iIsPuzzle_any _ xs true _ (HX.out.later (by go_grown)) HP.out (HW.out.later (by go_grown))).mono ?_); rintro e w1 ⟨rfl, hb1⟩; (have c0 : w1.cell? ⟨w.heap.size, 0, none⟩ = some (.slice a0 xs.length cap) := cellB hb1 (by go_simp)); (have c2 : w1.cell? ⟨w.heap.size + 1, 0, none⟩ = some (.slice none 0 0) := cellB hb1 (by go_simp)); (have f2 : w1.frozen? ⟨w.heap.size + 1, 0, none⟩ = false := frozenB hb1 (by simp) (by go_simp)); (have hB1 : Below w.heap.size w w1 := Below.trans (by go_grown) (hb1.mono (by first | omega | (simp; done) | (simp; omega)))); have hz1 := hB1.size; (have hzz : w.heap.size + 1 < w1.heap.size := by have := hb1.size; simp at this; omega)))
  refine bodyPost_ret (v := .tuple #[.agg #[.slice none 0 0], .bool false]) (by simp [results, Tryd.results24, go_sem, c2]) rfl ⟨_, rfl, ?_, ?_⟩
  · exact ⟨World.ownsRow_nil _ _ _ _, fun k hk => by simp [Value.ownBlock] at hk⟩
  · first | exact hB1.setC _ _ (by show _ ≤ w.heap.size + 1; omega) | exact hB1

set_option maxHeartbeats 1000000 in
theorem iDropClue_no3 (u : Value) (xs : List Tri) (w : World) (hx : SrcT w u xs) (k : Int) (hW : ClueW w) (hP : puzzleP xs) (hk0 : ¬ k < 0) (hk : (xs.length : Int) ≤ k) : Calls Tryd.prog 24 #[.agg #[u], .int .i64 k] w (GivesZ w [] false) := by
  have HX := Lib.hid hx
  have HW := Lib.hid hW
  have HP := Lib.hid (show decide (puzzleP xs) = true from decide_eq_true hP)
  obtain ⟨a0, cap, g, off, rfl, ha, hcap, hcm, _⟩ := hx.form
  unfold maxLen at hcm
  clear hx hW hP ha
  go_enter Tryd.func24, Tryd.ntmps24
  go_wp2_with (first | (go_at_call 62; (refine (iIsPuzzle_any _ xs true _ (HX.out.later (by go_grown)) HP.out (HW.out.later (by go_grown))).mono ?_); rintro e w1 ⟨rfl, hb1⟩; (have c0 : w1.cell? ⟨w.heap.size, 0, none⟩ = some (.slice a0 xs.length cap) := cellB hb1 (by go_simp)); (have c2 : w1.cell? ⟨w.heap.size + 1, 0, none⟩ = some (.slice none 0 0) := cellB hb1 (by go_simp)); (have f2 : w1.frozen? ⟨w.heap.size + 1, 0, none⟩ = false := frozenB hb1 (by simp) (by go_simp)); (have hB1 : Below w.heap.size w w1 := Below.trans (by go_grown) (hb1.mono (by first | omega | (simp; done) | (simp; omega)))); have hz1 := hB1.size; (have hzz : w.heap.size + 1 < w1.heap.size := by have := hb1.size; simp at this; omega)))
  refine bodyPost_ret (v := .tuple #[.agg #[.slice none 0 0], .bool false]) (by simp [results, Tryd.results24, go_sem, c2]) rfl ⟨_, rfl, ?_, ?_⟩
  · exact ⟨World.ownsRow_nil _ _ _ _, fun k hk => by simp [Value.ownBlock] at hk⟩
  · first | exact hB1.setC _ _ (by show _ ≤ w.heap.size + 1; omega) | exact hB1

set_option maxHeartbeats 1000000 in
theorem sDropClue_no2 (u : Value) (xs : List Tri) (w : World) (hx : SrcT w u xs) (k : Int) (hW : ClueW w) (hP : puzzleP xs) (hk : ¬ (0 ≤ k ∧ k ≤ (xs.length : Int) - 1)) : Calls Tryd.prog 23 #[.agg #[u], .int .i64 k] w (GivesZ w [] false) := by
  have HX := Lib.hid hx
  have HW := Lib.hid hW
  have HP := Lib.hid (show decide (puzzleP xs) = true from decide_eq_true hP)
  have HK := Lib.hid hk
  have hl6 := hP.1
  clear hk
  obtain ⟨a0, cap, g, off, rfl, ha, hcap, hcm, _⟩ := hx.form
  unfold maxLen at hcm
  clear hx hW hP ha
  go_enter Tryd.func23, Tryd.ntmps23
  go_wp2_with (first | (go_at_call 53; (refine (pzGood_any _ xs true _ (HX.out.later (by go_grown)) HP.out).mono ?_); rintro e w1 ⟨rfl, hb1⟩; (have c0 : w1.cell? ⟨w.heap.size, 0, none⟩ = some (.slice a0 xs.length cap) := cellB hb1 (by go_simp)); (have c2 : w1.cell? ⟨w.heap.size + 1, 0, none⟩ = some (.slice none 0 0) := cellB hb1 (by go_simp)); (have f2 : w1.frozen? ⟨w.heap.size + 1, 0, none⟩ = false := frozenB hb1 (by simp) (by go_simp)); (have hB1 : Below w.heap.size w w1 := Below.trans (by go_grown) (hb1.mono (by first | omega | (simp; done) | (simp; omega)))); have hz1 := hB1.size; (have hzz : w.heap.size + 1 < w1.heap.size := by have := hb1.size; simp at this; omega)) | (go_at_call 61; (with_reducible refine (l1In_no k 0 _ _ HK.out).mono ?_); rintro e w2 ⟨rfl, rfl⟩))
  refine bodyPost_ret (v := .tuple #[.agg #[.slice none 0 0], .bool false]) (by simp [results, Tryd.results23, go_sem, c2]) rfl ⟨_, rfl, ?_, ?_⟩
  · exact ⟨World.ownsRow_nil _ _ _ _, fun k hk => by simp [Value.ownBlock] at hk⟩
  · first | exact hB1.setC _ _ (by show _ ≤ w.heap.size + 1; omega) | exact hB1

set_option maxHeartbeats 1000000 in
theorem iDropClue_yes (u : Value) (xs : List Tri) (w : World) (hx : SrcT w u xs) (k : Nat) (hW : ClueW w) (hP : puzzleP xs) (hk : k < xs.length) : Calls Tryd.prog 24 #[.agg #[u], .int .i64 k] w (GivesZ w (outZ xs k) true) := by
  have HX := Lib.hid hx
  have HW := Lib.hid hW
  have HP := Lib.hid (show decide (puzzleP xs) = true from decide_eq_true hP)
  have hl6 := hP.1
  have HKK := Lib.hid hk
  have hkn : ¬ (k : Int) < 0 := by omega
  have hkl : (k : Int) < (xs.length : Int) := by omega
  have HK : Hid (0 ≤ (k : Int) ∧ (k : Int) ≤ (xs.length : Int) - 1) := Lib.hid (by omega)
  obtain ⟨a0, cap, g, off, rfl, ha, hcap, hcm, _⟩ := hx.form
  unfold maxLen at hcm
  clear hx hW hP ha
  go_enter Tryd.func24, Tryd.ntmps24
  go_wp2_with (first | (go_at_call 62; (refine (iIsPuzzle_any _ xs true _ (HX.out.later (by go_grown)) HP.out (HW.out.later (by go_grown))).mono ?_); rintro e w1 ⟨rfl, hb1⟩; (have c0 : w1.cell? ⟨w.heap.size, 0, none⟩ = some (.slice a0 xs.length cap) := cellB hb1 (by go_simp)); (have c2 : w1.cell? ⟨w.heap.size + 1, 0, none⟩ = some (.slice none 0 0) := cellB hb1 (by go_simp)); (have f2 : w1.frozen? ⟨w.heap.size + 1, 0, none⟩ = false := frozenB hb1 (by simp) (by go_simp)); (have hB1 : Below w.heap.size w w1 := Below.trans (by go_grown) (hb1.mono (by first | omega | (simp; done) | (simp; omega)))); have hz1 := hB1.size; (have hzz : w.heap.size + 1 < w1.heap.size := by have := hb1.size; simp at this; omega)) | (go_at_call 63; (refine (iWithout_any _ xs k _ (HX.out.later hB1) HKK.out (by omega)).mono ?_); rintro e w2 ⟨v2, rfl, hI2, hb2⟩; have d2 := cellB hb2 c2; (have r2 : w2.frozen? ⟨w.heap.size + 1, 0, none⟩ = false := frozenB hb2 (by omega) f2); (obtain ⟨va, vn, vc, hform⟩ := own_formT hI2.1); subst hform; have HI2 := Lib.hid hI2; have hz2 := hb2.size; clear hI2))
  refine bodyPost_ret (v := .tuple #[.agg #[.slice va vn vc], .bool true]) (by simp [results, Tryd.results24, go_sem, d2]) rfl ⟨_, rfl, ?_, ?_⟩
  · exact ((HI2.out.setC _ _ (by show w.heap.size + 1 < _; omega)).wider (by omega) (by simp))
  · exact (hB1.trans (hb2.mono hz1)).setC _ _ (by show _ ≤ w.heap.size + 1; omega)

set_option maxHeartbeats 1000000 in
theorem sDropClue_yes (u : Value) (xs : List Tri) (w : World) (hx : SrcT w u xs) (k : Nat) (hW : ClueW w) (hP : puzzleP xs) (hk : k < xs.length) : Calls Tryd.prog 23 #[.agg #[u], .int .i64 k] w (GivesZ w (outZ xs k) true) := by
  have HX := Lib.hid hx
  have HW := Lib.hid hW
  have HP := Lib.hid (show decide (puzzleP xs) = true from decide_eq_true hP)
  have hl6 := hP.1
  have HKK := Lib.hid hk
  have hkn : ¬ (k : Int) < 0 := by omega
  have hkl : (k : Int) < (xs.length : Int) := by omega
  have HK : Hid (0 ≤ (k : Int) ∧ (k : Int) ≤ (xs.length : Int) - 1) := Lib.hid (by omega)
  obtain ⟨a0, cap, g, off, rfl, ha, hcap, hcm, _⟩ := hx.form
  unfold maxLen at hcm
  clear hx hW hP ha
  go_enter Tryd.func23, Tryd.ntmps23
  go_wp2_with (first | (go_at_call 53; (refine (pzGood_any _ xs true _ (HX.out.later (by go_grown)) HP.out).mono ?_); rintro e w1 ⟨rfl, hb1⟩; (have c0 : w1.cell? ⟨w.heap.size, 0, none⟩ = some (.slice a0 xs.length cap) := cellB hb1 (by go_simp)); (have c2 : w1.cell? ⟨w.heap.size + 1, 0, none⟩ = some (.slice none 0 0) := cellB hb1 (by go_simp)); (have f2 : w1.frozen? ⟨w.heap.size + 1, 0, none⟩ = false := frozenB hb1 (by simp) (by go_simp)); (have hB1 : Below w.heap.size w w1 := Below.trans (by go_grown) (hb1.mono (by first | omega | (simp; done) | (simp; omega)))); have hz1 := hB1.size; (have hzz : w.heap.size + 1 < w1.heap.size := by have := hb1.size; simp at this; omega)) | (go_at_call 61; (with_reducible refine (l1In_yes _ 0 _ _ HK.out).mono ?_); rintro e w2 ⟨rfl, rfl⟩) | (go_at_call 55; (refine (pzWithout_any _ xs k _ (HX.out.later hB1) HKK.out (by omega)).mono ?_); rintro e w2 ⟨v2, rfl, hI2, hb2⟩; have d2 := cellB hb2 c2; (have r2 : w2.frozen? ⟨w.heap.size + 1, 0, none⟩ = false := frozenB hb2 (by omega) f2); (obtain ⟨va, vn, vc, hform⟩ := own_formT hI2.1); subst hform; have HI2 := Lib.hid hI2; have hz2 := hb2.size; clear hI2))
  refine bodyPost_ret (v := .tuple #[.agg #[.slice va vn vc], .bool true]) (by simp [results, Tryd.results23, go_sem, d2]) rfl ⟨_, rfl, ?_, ?_⟩
  · exact ((HI2.out.setC _ _ (by show w.heap.size + 1 < _; omega)).wider (by omega) (by simp))
  · exact (hB1.trans (hb2.mono hz1)).setC _ _ (by show _ ≤ w.heap.size + 1; omega)

set_option maxHeartbeats 2000000 in
theorem core_DropClue (v : Value) (xs : List Tri) (k : Int) (x : List Tri) (b : Bool) (w : World) (hA : ArgT w v xs) (hW : ClueW w) (hn : xs.length ≤ 1048576) (hx : x.length ≤ 1000000)
    (hs : ∀ (W : World) (u : Value) (B T : Nat), ClueW W → TripsIn 44 W B T u xs → T ≤ W.heap.size → Calls Tryd.prog 23 #[.agg #[u], .int .i64 k] W (GivesZ W x b))
    (hi : ∀ (W : World) (u : Value) (B T : Nat), ClueW W → TripsIn 44 W B T u xs → T ≤ W.heap.size → Calls Tryd.prog 24 #[.agg #[u], .int .i64 k] W (GivesZ W x b)) :
    Calls Tryd.prog 4 #[.agg #[v], .int .i64 k] w fun e w' => e = .returned (.bool true) ∧ Below w.heap.size w w' := by
  have hA1 := hA
  obtain ⟨a0, cap, a, rfl, _⟩ := hA1
  have HS := Lib.hid hs
  have HI := Lib.hid hi
  have HA := Lib.hid hA
  have HW := Lib.hid hW
  clear hs hi hA hW
  go_enter Tryd.func4, Tryd.ntmps4
  go_wp2_with fail
  refine (szPuzzle_yes _ _ _ _ hn).mono ?_
  rintro e w1 ⟨rfl, hx1⟩
  have hb1 : Below w.heap.size w w1 := Below.trans (by go_grown) (hx1.mono (by first | omega | (simp; done) | (simp; omega)))
  have n1 : w.heap.size + 1 ≤ w1.heap.size := by have := hx1.size; (try simp at this); omega
  have B1 : Below w.heap.size w w1 := hb1
  have zp1 : w1.cell? ⟨w.heap.size, 0, none⟩ = some (.slice a0 xs.length cap) := cellB hx1 (by go_simp)
  go_wp2_with fail
  refine (toPuzzle_any _ _ _ (HA.out.later B1) hn).mono ?_
  rintro e w2 ⟨va, rfl, ka_2, hx2⟩
  have hb2 : Below w1.heap.size w1 w2 := Below.trans (by go_grown) (hx2.mono (by first | omega | (simp; done) | (simp; omega)))
  have n2 : w1.heap.size + 0 ≤ w2.heap.size := by have := hx2.size; (try simp at this); omega
  have B2 : Below w.heap.size w w2 := B1.trans (hb2.mono (by omega))
  have zp2 := cellB hb2 zp1
  clear zp1
  obtain ⟨aa, ma, ca, hva⟩ := own_formT ka_2.1
  subst hva
  go_wp2_with fail
  refine (HS.out _ _ _ _ (HW.out.later B2) ka_2 (by first | omega | (simp; done) | (simp; omega))).mono ?_
  rintro e w3 ⟨vw, rfl, kw_3, hx3⟩
  have hb3 : Below w2.heap.size w2 w3 := Below.trans (by go_grown) (hx3.mono (by first | omega | (simp; done) | (simp; omega)))
  have n3 : w2.heap.size + 0 ≤ w3.heap.size := by have := hx3.size; (try simp at this); omega
  have B3 : Below w.heap.size w w3 := B2.trans (hb3.mono (by omega))
  have zp3 := cellB hb3 zp2
  clear zp2
  have ka_3 := ka_2.keep (belowSame hb3 (by omega))
  obtain ⟨aw, mw, cw, hvw⟩ := own_formT kw_3.1
  subst hvw
  have qzpzw := cellB ((Below.refl w3.heap.size w3).alloc (Nat.le_refl _) (.cells #[Value.slice aw mw cw] 31)) zp3
  go_wp2_with fail
  refine (toPuzzle_any _ _ _ (HA.out.later (Below.trans B3 (by go_grown))) hn).mono ?_
  rintro e w4 ⟨vc, rfl, kc_4, hx4⟩
  simp only [World.size_alloc] at kc_4
  have hb4 : Below w3.heap.size w3 w4 := Below.trans (by go_grown) (hx4.mono (by first | omega | (simp; done) | (simp; omega)))
  have n4 : w3.heap.size + 1 ≤ w4.heap.size := by have := hx4.size; (try simp at this); omega
  have B4 : Below w.heap.size w w4 := B3.trans (hb4.mono (by omega))
  have zp4 := cellB hb4 zp3
  clear zp3
  have zw4 : w4.cell? ⟨w3.heap.size, 0, none⟩ = some (.slice aw mw cw) := cellB hx4 (by go_simp)
  have ka_4 := ka_3.keep (belowSame hb4 (by omega))
  have kw_4 := kw_3.keep (belowSame hb4 (by omega))
  obtain ⟨ac, mc, cc, hvc⟩ := own_formT kc_4.1
  subst hvc
  go_wp2_with fail
  refine (HI.out _ _ _ _ (HW.out.later (Below.trans B4 (by go_grown))) (kc_4.keep (belowSame (by go_grown) (by first | omega | (simp; done) | (simp; omega)))) (by first | omega | (simp; done) | (simp; omega))).mono ?_
  rintro e w5 ⟨vg, rfl, kg_5, hx5⟩
  simp only [World.size_alloc] at kg_5
  have hb5 : Below w4.heap.size w4 w5 := Below.trans (by go_grown) (hx5.mono (by first | omega | (simp; done) | (simp; omega)))
  have n5 : w4.heap.size + 1 ≤ w5.heap.size := by have := hx5.size; (try simp at this); omega
  have B5 : Below w.heap.size w w5 := B4.trans (hb5.mono (by omega))
  have zp5 := cellB hb5 zp4
  have zw5 := cellB hb5 zw4
  clear zp4 zw4
  have zc5 : w5.cell? ⟨w4.heap.size, 0, none⟩ = some (.slice ac mc cc) := cellB hx5 (by go_simp)
  have ka_5 := ka_4.keep (belowSame hb5 (by omega))
  have kw_5 := kw_4.keep (belowSame hb5 (by omega))
  have kc_5 := kc_4.keep (belowSame hb5 (by omega))
  obtain ⟨ag, mg, cg, hvg⟩ := own_formT kg_5.1
  subst hvg
  have qzpzg := cellB ((Below.refl w5.heap.size w5).alloc (Nat.le_refl _) (.cells #[Value.slice ag mg cg] 31)) zp5
  have qzwzg := cellB ((Below.refl w5.heap.size w5).alloc (Nat.le_refl _) (.cells #[Value.slice ag mg cg] 31)) zw5
  have qzczg := cellB ((Below.refl w5.heap.size w5).alloc (Nat.le_refl _) (.cells #[Value.slice ag mg cg] 31)) zc5
  go_wp2_with fail
  refine (eqPuzzle_in _ _ x _ _ _ _ _ _ (kg_5.keep (belowSame (by go_grown) (by first | omega | (simp; done) | (simp; omega)))) (kw_5.keep (belowSame (by go_grown) (by first | omega | (simp; done) | (simp; omega)))) (by first | omega | (simp; done) | (simp; omega)) (by first | omega | (simp; done) | (simp; omega))).mono ?_
  rintro e w6 ⟨rfl, hx6⟩
  have hb6 : Below w5.heap.size w5 w6 := Below.trans (by go_grown) (hx6.mono (by first | omega | (simp; done) | (simp; omega)))
  have n6 : w5.heap.size + 1 ≤ w6.heap.size := by have := hx6.size; (try simp at this); omega
  have B6 : Below w.heap.size w w6 := B5.trans (hb6.mono (by omega))
  have zp6 := cellB hb6 zp5
  have zw6 := cellB hb6 zw5
  have zc6 := cellB hb6 zc5
  clear zp5 zw5 zc5
  have zg6 : w6.cell? ⟨w5.heap.size, 0, none⟩ = some (.slice ag mg cg) := cellB hx6 (by go_simp)
  have ka_6 := ka_5.keep (belowSame hb6 (by omega))
  have kw_6 := kw_5.keep (belowSame hb6 (by omega))
  have kc_6 := kc_5.keep (belowSame hb6 (by omega))
  have kg_6 := kg_5.keep (belowSame hb6 (by omega))
  go_wp2
  go_region_held3 (fun w' => w'.cell? ⟨w.heap.size, 0, none⟩ = some (.slice a0 xs.length cap) ∧ w'.cell? ⟨w3.heap.size, 0, none⟩ = some (.slice aw mw cw) ∧ w'.cell? ⟨w4.heap.size, 0, none⟩ = some (.slice ac mc cc) ∧ w'.cell? ⟨w5.heap.size, 0, none⟩ = some (.slice ag mg cg)) (go_keep)
    (first | (go_at_call 16; refine (toPuzzle_any _ _ _ (HA.out.later (Below.trans B6 (by go_grown))) hn).mono ?_; rintro e w7 ⟨vd, rfl, kd_7, hx7⟩; (have kd_7 := kd_7.wider (B' := w6.heap.size + 0) (by first | exact Nat.le_refl _ | (simp; done) | (simp; omega)) (Nat.le_refl _)); (have hb7 : Below w6.heap.size w6 w7 := Below.trans (by go_grown) (hx7.mono (by first | omega | (simp; done) | (simp; omega)))); (have n7 : w6.heap.size + 0 ≤ w7.heap.size := by have := hx7.size; (try simp at this); omega); (have B7 : Below w.heap.size w w7 := B6.trans (hb7.mono (by omega))); (have zp7 := cellB hb7 zp6); (have zw7 := cellB hb7 zw6); (have zc7 := cellB hb7 zc6); (have zg7 := cellB hb7 zg6); (have ka_7 := ka_6.keep (belowSame hb7 (by omega))); (have kw_7 := kw_6.keep (belowSame hb7 (by omega))); (have kc_7 := kc_6.keep (belowSame hb7 (by omega))); (have kg_7 := kg_6.keep (belowSame hb7 (by omega))); (obtain ⟨ad, md, cd, hvd⟩ := own_formT kd_7.1); subst hvd) | (go_at_call 19; refine (eqPuzzle_in _ _ _ _ _ _ _ _ _ (kc_7.keep (belowSame (by go_grown) (by first | omega | (simp; done) | (simp; omega)))) (kd_7.keep (belowSame (by go_grown) (by first | omega | (simp; done) | (simp; omega)))) (by first | omega | (simp; done) | (simp; omega)) (by first | omega | (simp; done) | (simp; omega))).mono ?_; rintro e w8 ⟨rfl, hx8⟩; (have hb8 : Below w7.heap.size w7 w8 := Below.trans (by go_grown) (hx8.mono (by first | omega | (simp; done) | (simp; omega)))); (have n8 : w7.heap.size + 0 ≤ w8.heap.size := by have := hx8.size; (try simp at this); omega); (have B8 : Below w.heap.size w w8 := B7.trans (hb8.mono (by omega))); (have zp8 := cellB hb8 zp7); (have zw8 := cellB hb8 zw7); (have zc8 := cellB hb8 zc7); (have zg8 := cellB hb8 zg7); (have ka_8 := ka_7.keep (belowSame hb8 (by omega))); (have kw_8 := kw_7.keep (belowSame hb8 (by omega))); (have kc_8 := kc_7.keep (belowSame hb8 (by omega))); (have kg_8 := kg_7.keep (belowSame hb8 (by omega))); (have kd_8 := kd_7.keep (belowSame hb8 (by omega)))))
  go_wp2_with fail
  refine (markPuzzle_in _ _ 1 _ _ _ _ kc_8 (by omega) (by omega) (by omega) (by omega)).mono ?_
  rintro e w9 ⟨rfl, kc_9, o9⟩
  have n9 := o9.size
  have B9 := B8.trans (o9.below (C := w.heap.size) (by omega) (by omega))
  have zp9 := o9.cell (by omega) zp8
  have zw9 := o9.cell (by omega) zw8
  have zc9 := o9.cell (by omega) zc8
  have zg9 := o9.cell (by omega) zg8
  clear zp8 zw8 zc8 zg8
  have ka_9 := ka_8.keep (o9.same_in (by omega) (by omega))
  have kw_9 := kw_8.keep (o9.same_in (by omega) (by omega))
  have kg_9 := kg_8.keep (o9.same_in (by omega) (by omega))
  have kd_9 := kd_8.keep (o9.same_in (by omega) (by omega))
  go_wp2_with fail
  refine (eqPuzzle_in _ _ x _ _ _ _ _ _ kg_9 kw_9 (by first | omega | (simp; done) | (simp; omega)) (by first | omega | (simp; done) | (simp; omega))).mono ?_
  rintro e w10 ⟨rfl, hx10⟩
  have hb10 : Below w9.heap.size w9 w10 := Below.trans (by go_grown) (hx10.mono (by first | omega | (simp; done) | (simp; omega)))
  have n10 : w9.heap.size + 0 ≤ w10.heap.size := by have := hx10.size; (try simp at this); omega
  have B10 : Below w.heap.size w w10 := B9.trans (hb10.mono (by omega))
  have zp10 := cellB hb10 zp9
  have zw10 := cellB hb10 zw9
  have zc10 := cellB hb10 zc9
  have zg10 := cellB hb10 zg9
  clear zp9 zw9 zc9 zg9
  have ka_10 := ka_9.keep (belowSame hb10 (by omega))
  have kw_10 := kw_9.keep (belowSame hb10 (by omega))
  have kc_10 := kc_9.keep (belowSame hb10 (by omega))
  have kg_10 := kg_9.keep (belowSame hb10 (by omega))
  have kd_10 := kd_9.keep (belowSame hb10 (by omega))
  go_wp2_with fail
  refine (markPuzzle_in _ x 1 _ _ _ _ kg_10 (by omega) (by omega) (by omega) (by omega)).mono ?_
  rintro e w11 ⟨rfl, kg_11, o11⟩
  have n11 := o11.size
  have B11 := B10.trans (o11.below (C := w.heap.size) (by omega) (by omega))
  have zp11 := o11.cell (by omega) zp10
  have zw11 := o11.cell (by omega) zw10
  have zc11 := o11.cell (by omega) zc10
  have zg11 := o11.cell (by omega) zg10
  clear zp10 zw10 zc10 zg10
  have ka_11 := ka_10.keep (o11.same_in (by omega) (by omega))
  have kw_11 := kw_10.keep (o11.same_in (by omega) (by omega))
  have kc_11 := kc_10.keep (o11.same_in (by omega) (by omega))
  have kd_11 := kd_10.keep (o11.same_in (by omega) (by omega))
  go_wp2_with fail
  refine (heldPuzzle_in _ 1 x.length _ _ _ _ kg_11 (by omega) (by omega) (by omega) (by omega)).mono ?_
  rintro e w12 ⟨rfl, hx12⟩
  have hb12 : Below w11.heap.size w11 w12 := Below.trans (by go_grown) (hx12.mono (by first | omega | (simp; done) | (simp; omega)))
  have n12 : w11.heap.size + 0 ≤ w12.heap.size := by have := hx12.size; (try simp at this); omega
  have B12 : Below w.heap.size w w12 := B11.trans (hb12.mono (by omega))
  have zp12 := cellB hb12 zp11
  have zw12 := cellB hb12 zw11
  have zc12 := cellB hb12 zc11
  have zg12 := cellB hb12 zg11
  clear zp11 zw11 zc11 zg11
  have ka_12 := ka_11.keep (belowSame hb12 (by omega))
  have kw_12 := kw_11.keep (belowSame hb12 (by omega))
  have kc_12 := kc_11.keep (belowSame hb12 (by omega))
  have kg_12 := kg_11.keep (belowSame hb12 (by omega))
  have kd_12 := kd_11.keep (belowSame hb12 (by omega))
  go_wp2_with fail
  refine (toPuzzle_any _ _ _ (HA.out.later B12) hn).mono ?_
  rintro e w13 ⟨ve, rfl, ke_13, hx13⟩
  have hb13 : Below w12.heap.size w12 w13 := Below.trans (by go_grown) (hx13.mono (by first | omega | (simp; done) | (simp; omega)))
  have n13 : w12.heap.size + 0 ≤ w13.heap.size := by have := hx13.size; (try simp at this); omega
  have B13 : Below w.heap.size w w13 := B12.trans (hb13.mono (by omega))
  have zp13 := cellB hb13 zp12
  have zw13 := cellB hb13 zw12
  have zc13 := cellB hb13 zc12
  have zg13 := cellB hb13 zg12
  clear zp12 zw12 zc12 zg12
  have ka_13 := ka_12.keep (belowSame hb13 (by omega))
  have kw_13 := kw_12.keep (belowSame hb13 (by omega))
  have kc_13 := kc_12.keep (belowSame hb13 (by omega))
  have kg_13 := kg_12.keep (belowSame hb13 (by omega))
  have kd_13 := kd_12.keep (belowSame hb13 (by omega))
  obtain ⟨ae, me, ce, hve⟩ := own_formT ke_13.1
  subst hve
  go_wp2_with fail
  refine (HI.out _ _ _ _ (HW.out.later B13) ke_13 (by first | omega | (simp; done) | (simp; omega))).mono ?_
  rintro e w14 ⟨vh, rfl, kh_14, hx14⟩
  have hb14 : Below w13.heap.size w13 w14 := Below.trans (by go_grown) (hx14.mono (by first | omega | (simp; done) | (simp; omega)))
  have n14 : w13.heap.size + 0 ≤ w14.heap.size := by have := hx14.size; (try simp at this); omega
  have B14 : Below w.heap.size w w14 := B13.trans (hb14.mono (by omega))
  have zp14 := cellB hb14 zp13
  have zw14 := cellB hb14 zw13
  have zc14 := cellB hb14 zc13
  have zg14 := cellB hb14 zg13
  clear zp13 zw13 zc13 zg13
  have ka_14 := ka_13.keep (belowSame hb14 (by omega))
  have kw_14 := kw_13.keep (belowSame hb14 (by omega))
  have kc_14 := kc_13.keep (belowSame hb14 (by omega))
  have kg_14 := kg_13.keep (belowSame hb14 (by omega))
  have kd_14 := kd_13.keep (belowSame hb14 (by omega))
  have ke_14 := ke_13.keep (belowSame hb14 (by omega))
  obtain ⟨ah, mh, ch, hvh⟩ := own_formT kh_14.1
  subst hvh
  have qzpzh := cellB ((Below.refl w14.heap.size w14).alloc (Nat.le_refl _) (.cells #[Value.slice ah mh ch] 31)) zp14
  have qzwzh := cellB ((Below.refl w14.heap.size w14).alloc (Nat.le_refl _) (.cells #[Value.slice ah mh ch] 31)) zw14
  have qzczh := cellB ((Below.refl w14.heap.size w14).alloc (Nat.le_refl _) (.cells #[Value.slice ah mh ch] 31)) zc14
  have qzgzh := cellB ((Below.refl w14.heap.size w14).alloc (Nat.le_refl _) (.cells #[Value.slice ah mh ch] 31)) zg14
  go_wp2_with fail
  refine (eqPuzzle_in _ _ x _ _ _ _ _ _ (kh_14.keep (belowSame (by go_grown) (by first | omega | (simp; done) | (simp; omega)))) (kw_14.keep (belowSame (by go_grown) (by first | omega | (simp; done) | (simp; omega)))) (by first | omega | (simp; done) | (simp; omega)) (by first | omega | (simp; done) | (simp; omega))).mono ?_
  rintro e w15 ⟨rfl, hx15⟩
  have hb15 : Below w14.heap.size w14 w15 := Below.trans (by go_grown) (hx15.mono (by first | omega | (simp; done) | (simp; omega)))
  have n15 : w14.heap.size + 1 ≤ w15.heap.size := by have := hx15.size; (try simp at this); omega
  have B15 : Below w.heap.size w w15 := B14.trans (hb15.mono (by omega))
  have zp15 := cellB hb15 zp14
  have zw15 := cellB hb15 zw14
  have zc15 := cellB hb15 zc14
  have zg15 := cellB hb15 zg14
  clear zp14 zw14 zc14 zg14
  have zh15 : w15.cell? ⟨w14.heap.size, 0, none⟩ = some (.slice ah mh ch) := cellB hx15 (by go_simp)
  have ka_15 := ka_14.keep (belowSame hb15 (by omega))
  have kw_15 := kw_14.keep (belowSame hb15 (by omega))
  have kc_15 := kc_14.keep (belowSame hb15 (by omega))
  have kg_15 := kg_14.keep (belowSame hb15 (by omega))
  have kd_15 := kd_14.keep (belowSame hb15 (by omega))
  have ke_15 := ke_14.keep (belowSame hb15 (by omega))
  have kh_15 := kh_14.keep (belowSame hb15 (by omega))
  go_wp2_with fail
  refine (heldPuzzle_in _ 1 x.length _ _ _ _ kg_15 (by omega) (by omega) (by omega) (by omega)).mono ?_
  rintro e w16 ⟨rfl, hx16⟩
  have hb16 : Below w15.heap.size w15 w16 := Below.trans (by go_grown) (hx16.mono (by first | omega | (simp; done) | (simp; omega)))
  have n16 : w15.heap.size + 0 ≤ w16.heap.size := by have := hx16.size; (try simp at this); omega
  have B16 : Below w.heap.size w w16 := B15.trans (hb16.mono (by omega))
  have zp16 := cellB hb16 zp15
  have zw16 := cellB hb16 zw15
  have zc16 := cellB hb16 zc15
  have zg16 := cellB hb16 zg15
  have zh16 := cellB hb16 zh15
  clear zp15 zw15 zc15 zg15 zh15
  have ka_16 := ka_15.keep (belowSame hb16 (by omega))
  have kw_16 := kw_15.keep (belowSame hb16 (by omega))
  have kc_16 := kc_15.keep (belowSame hb16 (by omega))
  have kg_16 := kg_15.keep (belowSame hb16 (by omega))
  have kd_16 := kd_15.keep (belowSame hb16 (by omega))
  have ke_16 := ke_15.keep (belowSame hb16 (by omega))
  have kh_16 := kh_15.keep (belowSame hb16 (by omega))
  go_wp2_with fail
  go_ret
  exact ⟨rfl, B16⟩

set_option maxHeartbeats 400000 in
theorem long_DropClue (v : Value) (xs : List Tri) (k : Int) (w : World) (hA : ArgT w v xs) (hn : ¬ xs.length ≤ 1048576) :
    Calls Tryd.prog 4 #[.agg #[v], .int .i64 k] w fun e w' => e = .returned (.bool true) ∧ Below w.heap.size w w' := by
  obtain ⟨a0, cap, a, rfl, _, hm, _⟩ := hA
  go_enter Tryd.func4, Tryd.ntmps4
  go_wp2_with fail
  refine (szPuzzle_no _ _ _ _ (by omega) hm).mono ?_
  rintro e w0 ⟨rfl, hb0⟩
  go_wp2_with fail
  go_ret
  exact ⟨rfl, Below.trans (by go_grown) (hb0.mono (by first | omega | (simp; done) | (simp; omega)))⟩

theorem walk_DropClue (v : Value) (xs : List Tri) (k : Int) (w : World) (hA : ArgT w v xs) (hW : ClueW w) :
    Calls Tryd.prog 4 #[.agg #[v], .int .i64 k] w fun e w' => e = .returned (.bool true) ∧ Below w.heap.size w w' := by
  by_cases hn : xs.length ≤ 1048576
  · by_cases hP : puzzleP xs
    · by_cases hk : 0 ≤ k ∧ k < xs.length
      · obtain ⟨n, rfl⟩ := Int.eq_ofNat_of_zero_le hk.1
        have hk' : n < xs.length := by omega
        have hl6 := hP.1
        have ho := outZ_length hk'
        exact core_DropClue v xs n (outZ xs n) true w hA hW hn (by omega) (fun W u B T hw h _ => sDropClue_yes u xs W h.1.src n hw hP hk') (fun W u B T hw h _ => iDropClue_yes u xs W h.1.src n hw hP hk')
      · refine core_DropClue v xs k [] false w hA hW hn (by simp) (fun W u B T hw h _ => sDropClue_no2 u xs W h.1.src k hw hP (by omega)) (fun W u B T hw h _ => ?_)
        by_cases h0 : k < 0
        · exact iDropClue_no2 u xs W h.1.src k hw hP h0
        · exact iDropClue_no3 u xs W h.1.src k hw hP h0 (by omega)
    · exact core_DropClue v xs k [] false w hA hW hn (by simp) (fun W u B T hw h _ => sDropClue_no1 u xs W h.1.src k hw hP) (fun W u B T hw h _ => iDropClue_no1 u xs W h.1.src k hw hP)
  · exact long_DropClue v xs k w hA hn
end Go.Proofs.YtbgcbokddldmkaaDoor
