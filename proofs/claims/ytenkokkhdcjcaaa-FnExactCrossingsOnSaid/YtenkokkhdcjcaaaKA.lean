/- The chord that crosses the most: the law. How far chords lead. -/
import Derived.Test.YtenkokkhdcjcaaaK9
import Derived.Test.YtenkokkhdcjcaaaC3
namespace Go.Proofs.Ytenkokkhdcjcaaa
open Go.RowKit
set_option linter.unusedVariables false

set_option maxHeartbeats 1000000 in
theorem core_MostCrossed (p : Int) (v : Value) (xs : List (Int × Int)) (x : Int) (b : Bool) (w : World) (hA : ArgP w v xs) (hn : xs.length ≤ 1048576)
    (hs : ∀ (W : World) (u : Value) (B T : Nat), PairsIn 50 W B T u xs → T ≤ W.heap.size → Calls Try.prog 30 #[.int .i64 p, u] W (fun e w' => e = .returned (.tuple #[.int .i64 x, .bool b]) ∧ Below W.heap.size W w'))
    (hi : ∀ (W : World) (u : Value) (B T : Nat), PairsIn 50 W B T u xs → T ≤ W.heap.size → Calls Try.prog 31 #[.int .i64 p, u] W (fun e w' => e = .returned (.tuple #[.int .i64 x, .bool b]) ∧ Below W.heap.size W w')) :
    Calls Try.prog 7 #[.int .i64 p, v] w fun e w' => e = .returned (.bool true) ∧ Below w.heap.size w w' := by
  have hA1 := hA
  obtain ⟨a0, cap, a, rfl, _⟩ := hA1
  have HS := Lib.hid hs
  have HI := Lib.hid hi
  have HA := Lib.hid hA
  clear hs hi hA
  go_enter Try.func7, Try.ntmps7
  go_wp2_with fail
  refine (szChordS_yes _ _ _ _ hn).mono ?_
  rintro e w0 ⟨rfl, rfl⟩
  go_wp2_with fail
  refine (toChordS_any _ _ _ (HA.out.later (by go_grown)) hn).mono ?_
  rintro e w1 ⟨va, rfl, ka_1, hb1⟩
  have n1 : w.heap.size ≤ w1.heap.size := by have := hb1.size; (try simp at this); omega
  have B1 : Below w.heap.size w w1 := Below.trans (by go_grown) (hb1.mono (by first | (simp; done) | (simp; omega)))
  go_wp2_with fail
  refine (HS.out _ _ _ _ ka_1 (by omega)).mono ?_
  rintro e w2 ⟨rfl, hb2⟩
  have n2 := hb2.size
  have B2 := B1.trans (hb2.mono (by omega))
  have ka_2 := ka_1.keep (belowSame hb2 (by omega))
  go_wp2_with fail
  refine (toChordS_any _ _ _ (HA.out.later B2) hn).mono ?_
  rintro e w3 ⟨vc, rfl, kc_3, hb3⟩
  have n3 := hb3.size
  have B3 := B2.trans (hb3.mono (by omega))
  have ka_3 := ka_2.keep (belowSame hb3 (by omega))
  go_wp2_with fail
  refine (HI.out _ _ _ _ kc_3 (by omega)).mono ?_
  rintro e w4 ⟨rfl, hb4⟩
  have n4 := hb4.size
  have B4 := B3.trans (hb4.mono (by omega))
  have ka_4 := ka_3.keep (belowSame hb4 (by omega))
  have kc_4 := kc_3.keep (belowSame hb4 (by omega))
  go_wp2_with fail
  refine (toChordS_any _ _ _ (HA.out.later B4) hn).mono ?_
  rintro e w5 ⟨vd, rfl, kd_5, hb5⟩
  have n5 := hb5.size
  have B5 := B4.trans (hb5.mono (by omega))
  have ka_5 := ka_4.keep (belowSame hb5 (by omega))
  have kc_5 := kc_4.keep (belowSame hb5 (by omega))
  go_wp2_with fail
  refine (eqChordS_in _ _ _ _ _ _ _ _ _ kc_5 kd_5).mono ?_
  rintro e w6 ⟨rfl, hb6⟩
  have n6 := hb6.size
  have B6 := B5.trans (hb6.mono (by omega))
  have ka_6 := ka_5.keep (belowSame hb6 (by omega))
  have kc_6 := kc_5.keep (belowSame hb6 (by omega))
  have kd_6 := kd_5.keep (belowSame hb6 (by omega))
  go_wp2_with fail
  go_ret
  exact ⟨rfl, B6⟩

set_option maxHeartbeats 400000 in
theorem long_MostCrossed (p : Int) (v : Value) (xs : List (Int × Int)) (w : World) (hA : ArgP w v xs) (hn : ¬ xs.length ≤ 1048576) :
    Calls Try.prog 7 #[.int .i64 p, v] w fun e w' => e = .returned (.bool true) ∧ Below w.heap.size w w' := by
  obtain ⟨a0, cap, a, rfl, _, hm, _⟩ := hA
  go_enter Try.func7, Try.ntmps7
  go_wp2_with fail
  refine (szChordS_no _ _ _ _ (by omega) hm).mono ?_
  rintro e w0 ⟨rfl, rfl⟩
  go_wp2_with fail
  go_ret
  exact ⟨rfl, by go_grown⟩

set_option maxHeartbeats 1000000 in
theorem core_ChordLengths (p : Int) (v : Value) (xs : List (Int × Int)) (x : List Int) (b : Bool) (w : World) (hA : ArgP w v xs) (hn : xs.length ≤ 1048576) (hx : x.length ≤ 1000000)
    (hs : ∀ (W : World) (u : Value) (B T : Nat), PairsIn 50 W B T u xs → T ≤ W.heap.size → Calls Try.prog 32 #[.int .i64 p, u] W (Gives (IntsIn 3) W x b))
    (hi : ∀ (W : World) (u : Value) (B T : Nat), PairsIn 50 W B T u xs → T ≤ W.heap.size → Calls Try.prog 33 #[.int .i64 p, u] W (Gives (IntsIn 3) W x b)) :
    Calls Try.prog 8 #[.int .i64 p, v] w fun e w' => e = .returned (.bool true) ∧ Below w.heap.size w w' := by
  have hA1 := hA
  obtain ⟨a0, cap, a, rfl, _⟩ := hA1
  have HS := Lib.hid hs
  have HI := Lib.hid hi
  have HA := Lib.hid hA
  clear hs hi hA
  go_enter Try.func8, Try.ntmps8
  go_wp2_with fail
  refine (szChordS_yes _ _ _ _ hn).mono ?_
  rintro e w0 ⟨rfl, rfl⟩
  go_wp2_with fail
  refine (toChordS_any _ _ _ (HA.out.later (by go_grown)) hn).mono ?_
  rintro e w1 ⟨va, rfl, ka_1, hb1⟩
  have n1 : w.heap.size ≤ w1.heap.size := by have := hb1.size; (try simp at this); omega
  have B1 : Below w.heap.size w w1 := Below.trans (by go_grown) (hb1.mono (by first | (simp; done) | (simp; omega)))
  go_wp2_with fail
  refine (HS.out _ _ _ _ ka_1 (by omega)).mono ?_
  rintro e w2 ⟨vw, rfl, kw_2, hb2⟩
  have n2 := hb2.size
  have B2 := B1.trans (hb2.mono (by omega))
  have ka_2 := ka_1.keep (belowSame hb2 (by omega))
  go_wp2_with fail
  refine (toChordS_any _ _ _ (HA.out.later B2) hn).mono ?_
  rintro e w3 ⟨vc, rfl, kc_3, hb3⟩
  have n3 := hb3.size
  have B3 := B2.trans (hb3.mono (by omega))
  have ka_3 := ka_2.keep (belowSame hb3 (by omega))
  have kw_3 := kw_2.keep (belowSame hb3 (by omega))
  go_wp2_with fail
  refine (HI.out _ _ _ _ kc_3 (by omega)).mono ?_
  rintro e w4 ⟨vg, rfl, kg_4, hb4⟩
  have n4 := hb4.size
  have B4 := B3.trans (hb4.mono (by omega))
  have ka_4 := ka_3.keep (belowSame hb4 (by omega))
  have kw_4 := kw_3.keep (belowSame hb4 (by omega))
  have kc_4 := kc_3.keep (belowSame hb4 (by omega))
  go_wp2_with fail
  refine (eqIntS_in _ _ _ _ _ _ _ _ _ kg_4 kw_4).mono ?_
  rintro e w5 ⟨rfl, hb5⟩
  have n5 := hb5.size
  have B5 := B4.trans (hb5.mono (by omega))
  have ka_5 := ka_4.keep (belowSame hb5 (by omega))
  have kw_5 := kw_4.keep (belowSame hb5 (by omega))
  have kc_5 := kc_4.keep (belowSame hb5 (by omega))
  have kg_5 := kg_4.keep (belowSame hb5 (by omega))
  go_wp2_with fail
  refine (toChordS_any _ _ _ (HA.out.later B5) hn).mono ?_
  rintro e w6 ⟨vd, rfl, kd_6, hb6⟩
  have n6 := hb6.size
  have B6 := B5.trans (hb6.mono (by omega))
  have ka_6 := ka_5.keep (belowSame hb6 (by omega))
  have kw_6 := kw_5.keep (belowSame hb6 (by omega))
  have kc_6 := kc_5.keep (belowSame hb6 (by omega))
  have kg_6 := kg_5.keep (belowSame hb6 (by omega))
  go_wp2_with fail
  refine (eqChordS_in _ _ _ _ _ _ _ _ _ kc_6 kd_6).mono ?_
  rintro e w7 ⟨rfl, hb7⟩
  have n7 := hb7.size
  have B7 := B6.trans (hb7.mono (by omega))
  have ka_7 := ka_6.keep (belowSame hb7 (by omega))
  have kw_7 := kw_6.keep (belowSame hb7 (by omega))
  have kc_7 := kc_6.keep (belowSame hb7 (by omega))
  have kg_7 := kg_6.keep (belowSame hb7 (by omega))
  have kd_7 := kd_6.keep (belowSame hb7 (by omega))
  go_wp2_with fail
  refine (markChordS_in _ _ 1 _ _ _ _ kc_7 (by omega) (by omega) (by omega)).mono ?_
  rintro e w8 ⟨rfl, mc_8, o8⟩
  have n8 := o8.size
  have B8 := B7.trans (o8.below (C := w.heap.size) (by omega) (by omega))
  have ka_8 := ka_7.keep (o8.same_in (by omega) (by omega))
  have kw_8 := kw_7.keep (o8.same_in (by omega) (by omega))
  have kg_8 := kg_7.keep (o8.same_in (by omega) (by omega))
  have kd_8 := kd_7.keep (o8.same_in (by omega) (by omega))
  have kc_8 := mc_8
  go_wp2_with fail
  refine (eqIntS_in _ _ _ _ _ _ _ _ _ kg_8 kw_8).mono ?_
  rintro e w9 ⟨rfl, hb9⟩
  have n9 := hb9.size
  have B9 := B8.trans (hb9.mono (by omega))
  have ka_9 := ka_8.keep (belowSame hb9 (by omega))
  have kw_9 := kw_8.keep (belowSame hb9 (by omega))
  have kc_9 := kc_8.keep (belowSame hb9 (by omega))
  have kg_9 := kg_8.keep (belowSame hb9 (by omega))
  have kd_9 := kd_8.keep (belowSame hb9 (by omega))
  go_wp2_with fail
  refine (markIntS_in _ _ 1 _ _ _ _ kg_9 (by omega) (by omega) (by omega)).mono ?_
  rintro e w10 ⟨rfl, mg_10, o10⟩
  have n10 := o10.size
  have B10 := B9.trans (o10.below (C := w.heap.size) (by omega) (by omega))
  have ka_10 := ka_9.keep (o10.same_in (by omega) (by omega))
  have kw_10 := kw_9.keep (o10.same_in (by omega) (by omega))
  have kc_10 := kc_9.keep (o10.same_in (by omega) (by omega))
  have kd_10 := kd_9.keep (o10.same_in (by omega) (by omega))
  have kg_10 := mg_10
  go_wp2_with fail
  refine (heldIntS_in _ 1 _ _ _ _ _ kg_10 (by omega) (by omega) (by omega)).mono ?_
  rintro e w11 ⟨rfl, hb11⟩
  have n11 := hb11.size
  have B11 := B10.trans (hb11.mono (by omega))
  have ka_11 := ka_10.keep (belowSame hb11 (by omega))
  have kw_11 := kw_10.keep (belowSame hb11 (by omega))
  have kc_11 := kc_10.keep (belowSame hb11 (by omega))
  have kg_11 := kg_10.keep (belowSame hb11 (by omega))
  have kd_11 := kd_10.keep (belowSame hb11 (by omega))
  go_wp2_with fail
  refine (toChordS_any _ _ _ (HA.out.later B11) hn).mono ?_
  rintro e w12 ⟨ve, rfl, ke_12, hb12⟩
  have n12 := hb12.size
  have B12 := B11.trans (hb12.mono (by omega))
  have ka_12 := ka_11.keep (belowSame hb12 (by omega))
  have kw_12 := kw_11.keep (belowSame hb12 (by omega))
  have kc_12 := kc_11.keep (belowSame hb12 (by omega))
  have kg_12 := kg_11.keep (belowSame hb12 (by omega))
  have kd_12 := kd_11.keep (belowSame hb12 (by omega))
  go_wp2_with fail
  refine (HI.out _ _ _ _ ke_12 (by omega)).mono ?_
  rintro e w13 ⟨vh, rfl, kh_13, hb13⟩
  have n13 := hb13.size
  have B13 := B12.trans (hb13.mono (by omega))
  have ka_13 := ka_12.keep (belowSame hb13 (by omega))
  have kw_13 := kw_12.keep (belowSame hb13 (by omega))
  have kc_13 := kc_12.keep (belowSame hb13 (by omega))
  have kg_13 := kg_12.keep (belowSame hb13 (by omega))
  have kd_13 := kd_12.keep (belowSame hb13 (by omega))
  have ke_13 := ke_12.keep (belowSame hb13 (by omega))
  go_wp2_with fail
  refine (eqIntS_in _ _ _ _ _ _ _ _ _ kh_13 kw_13).mono ?_
  rintro e w14 ⟨rfl, hb14⟩
  have n14 := hb14.size
  have B14 := B13.trans (hb14.mono (by omega))
  have ka_14 := ka_13.keep (belowSame hb14 (by omega))
  have kw_14 := kw_13.keep (belowSame hb14 (by omega))
  have kc_14 := kc_13.keep (belowSame hb14 (by omega))
  have kg_14 := kg_13.keep (belowSame hb14 (by omega))
  have kd_14 := kd_13.keep (belowSame hb14 (by omega))
  have ke_14 := ke_13.keep (belowSame hb14 (by omega))
  have kh_14 := kh_13.keep (belowSame hb14 (by omega))
  go_wp2_with fail
  refine (heldIntS_in _ 1 _ _ _ _ _ kg_14 (by omega) (by omega) (by omega)).mono ?_
  rintro e w15 ⟨rfl, hb15⟩
  have n15 := hb15.size
  have B15 := B14.trans (hb15.mono (by omega))
  have ka_15 := ka_14.keep (belowSame hb15 (by omega))
  have kw_15 := kw_14.keep (belowSame hb15 (by omega))
  have kc_15 := kc_14.keep (belowSame hb15 (by omega))
  have kg_15 := kg_14.keep (belowSame hb15 (by omega))
  have kd_15 := kd_14.keep (belowSame hb15 (by omega))
  have ke_15 := ke_14.keep (belowSame hb15 (by omega))
  have kh_15 := kh_14.keep (belowSame hb15 (by omega))
  go_wp2_with fail
  go_ret
  exact ⟨rfl, B15⟩

set_option maxHeartbeats 400000 in
theorem long_ChordLengths (p : Int) (v : Value) (xs : List (Int × Int)) (w : World) (hA : ArgP w v xs) (hn : ¬ xs.length ≤ 1048576) :
    Calls Try.prog 8 #[.int .i64 p, v] w fun e w' => e = .returned (.bool true) ∧ Below w.heap.size w w' := by
  obtain ⟨a0, cap, a, rfl, _, hm, _⟩ := hA
  go_enter Try.func8, Try.ntmps8
  go_wp2_with fail
  refine (szChordS_no _ _ _ _ (by omega) hm).mono ?_
  rintro e w0 ⟨rfl, rfl⟩
  go_wp2_with fail
  go_ret
  exact ⟨rfl, by go_grown⟩

theorem walk_MostCrossed (p : Int) (v : Value) (xs : List (Int × Int)) (w : World) (_ : (Lit.int .i64 p).wf = true) (hA : ArgP w v xs) :
    Calls Try.prog 7 #[.int .i64 p, v] w fun e w' => e = .returned (.bool true) ∧ Below w.heap.size w w' := by
  by_cases hn : xs.length ≤ 1048576
  · by_cases hg : goodC p xs ∧ 0 < xs.length
    · exact core_MostCrossed p v xs _ _ w hA hn (fun W u B T h hT => sMostCrossed_yes p u xs B T W h hT hg.1 hg.2) (fun W u B T h hT => iMostCrossed_yes p u xs B T W h hT hg.1 hg.2)
    · exact core_MostCrossed p v xs _ _ w hA hn (fun W u B T h hT => sMostCrossed_no p u xs B T W h hg) (fun W u B T h hT => iMostCrossed_no p u xs B T W h hg)
  · exact long_MostCrossed p v xs w hA hn

/-- How many points farther a chord leads. -/
def lenC (p : Int) (c : Int × Int) : Int := min (c.2 - c.1) (p - (c.2 - c.1))

theorem map_take_snoc {α β : Type} (f : α → β) (xs : List α) (z : α) (k : Nat) (h : k < xs.length) : (xs.take k).map f ++ [f (xs.getD k z)] = (xs.take (k + 1)).map f := by
  rw [List.take_succ_eq_append_getElem h, List.map_append, List.getD_eq_getElem?_getD, List.getElem?_eq_getElem h]
  rfl

theorem map_range_getD {α β : Type} (f : α → β) (xs : List α) (z : α) : (List.range xs.length).map (fun i => f (xs.getD i z)) = xs.map f := by
  conv => rhs; rw [← range_getD xs z, List.map_map]
  rfl

set_option maxHeartbeats 400000 in
theorem cdLength_any (p a b : Int) (w : World) (hp : p ≤ 60) (h : 0 ≤ a ∧ a < b ∧ b < p) :
    Calls Try.prog 61 #[.int .i64 p, .agg #[.int .i64 a, .int .i64 b]] w fun e w' => e = .returned (.int .i64 (lenC p (a, b))) ∧ Below w.heap.size w w' := by
  obtain ⟨h1, h2, h3⟩ := h
  have e : lenC p (a, b) = min (b - a) (p - b + a) := by unfold lenC; simp only; omega
  rw [e]
  go_enter Try.func61, Try.ntmps61
  go_wp2_with (first | (go_at_call 81; (with_reducible refine (l1Least_i _ _ _).mono ?_); rintro e w1 ⟨rfl, rfl⟩))
  go_ret
  exact ⟨rfl, by go_grown⟩

set_option maxHeartbeats 600000 in
theorem sChordLengths_yes (p : Int) (u : Value) (xs : List (Int × Int)) (B T : Nat) (w : World) (h : PairsIn 50 w B T u xs) (hT : T ≤ w.heap.size) (hg : goodC p xs) :
    Calls Try.prog 32 #[.int .i64 p, u] w (Gives (IntsIn 3) w (xs.map (lenC p)) true) := by
  have hl := hg.2.1
  have HH := Lib.hid h
  have HG := Lib.hid hg
  have hp60 := hg.1.2
  have HO := Lib.hid (fun k hk => (hg.2.2 k hk).1)
  obtain ⟨a1, c1, g1, rfl, ha1, hmm, hx1, hy1⟩ := h.pairs.view
  have HA := Lib.hid ha1
  have X := Lib.hid hx1
  have Y := Lib.hid hy1
  clear h ha1 hx1 hy1 hmm hg
  go_enter Try.func32, Try.ntmps32
  go_wp2_with (first | (go_at_call 52; (with_reducible refine (cdGood_yes p _ xs B T _ HH.out HG.out).mono ?_); rintro e w1 ⟨rfl, hb1⟩; have hz1 := hb1.size))
  go_loopw [6, 15] (fun r i wr => ∃ k : Nat, k ≤ xs.length ∧ i = .int .i64 k ∧ Ints wr w.heap.size 3 r ((xs.take k).map (lenC p)) ∧ Below w.heap.size w wr) (fun _ i _ => xs.length - (intOf i).toNat)
  case atStart => exact ⟨0, by omega, rfl, World.ownsRow_nil _ _ _ _, hb1⟩
  case round =>
    obtain ⟨k, hk, rfl, hI, hB⟩ := hrel
    have hz := hB.size
    have HI := Lib.hid hI
    clear hI
    by_cases hlt : k < xs.length
    · obtain rfl := HA.out (by omega)
      obtain ⟨x, y, hxy⟩ : ∃ x y, xs.getD k (0, 0) = (x, y) := ⟨_, _, rfl⟩
      have cx : wr.cell? ⟨g1, k * 2, none⟩ = _ := (hB.cell (p := ⟨g1, k * 2, none⟩) (World.block_lt_of_cell? w _ (X.out k hlt))).trans (X.out k hlt)
      have cy : wr.cell? ⟨g1, k * 2 + 1, none⟩ = _ := (hB.cell (p := ⟨g1, k * 2 + 1, none⟩) (World.block_lt_of_cell? w _ (Y.out k hlt))).trans (Y.out k hlt)
      have hord := HO.out k hlt
      rw [hxy] at cx cy hord
      simp only at cx cy hord
      have HORD := Lib.hid hord
      have hms := map_take_snoc (lenC p) xs (0, 0) k hlt
      rw [hxy] at hms
      have HMS := Lib.hid hms
      have hl1 : ((xs.take k).map (lenC p)).length = k := by simp; omega
      clear hxy hord hms
      obtain ⟨L, hL⟩ : ∃ L, L = lenC p (x, y) := ⟨_, rfl⟩
      rw [← hL] at HMS
      have HLL := Lib.hid hL
      clear hL
      go_wp2_with (first | (go_at_call 61; (with_reducible refine (cdLength_any p x y _ hp60 HORD.out).mono ?_); rintro e w2 ⟨rfl, hb2⟩; rw [← HLL.out]; (have hB2 : Below w.heap.size w w2 := by (refine Below.trans ?_ (hb2.mono (by first | omega | (simp; omega))); go_grown)); (have HI2 := Lib.hid (HI.out.later (w' := w2) (by (refine Below.trans ?_ (hb2.mono (by first | omega | (simp; done) | (simp; omega)))); go_grown))); (have hz2 := hB2.size); clear hb2) | (at_builtin; refine wpList_append_int rfl _ _ 39 rfl (w.heap.size) 3 Try.underlying39 info_int _ _ rfl HI2.out (L) rfl (by omega) (by omega) ?_; intro v' w' hI' hg';  have hB' := HI2.out.below hB2 hz2 hg'; rw [HMS.out] at hI'; have HI' := Lib.hid hI'; clear hI'))
      go_roundw
      case rel => exact ⟨k + 1, by omega, by go_num, HI'.out, hB'⟩
      case measure => simp [intOf]; omega
    · obtain rfl : k = xs.length := by omega
      rw [List.take_length] at HI
      go_wp2
      go_ret2
      exact giveInts true HI.out (Nat.le_refl _) hB

set_option maxHeartbeats 400000 in
theorem sChordLengths_no (p : Int) (u : Value) (xs : List (Int × Int)) (B T : Nat) (w : World) (h : PairsIn 50 w B T u xs) (hg : ¬ goodC p xs) :
    Calls Try.prog 32 #[.int .i64 p, u] w (Gives (IntsIn 3) w [] false) := by
  go_enter Try.func32, Try.ntmps32
  go_wp2_with (first | (go_at_call 52; (with_reducible refine (cdGood_no p u xs B T _ h hg).mono ?_); rintro e w1 ⟨rfl, hb1⟩))
  go_ret2
  exact giveNoInts hb1

set_option maxHeartbeats 400000 in
theorem iChordLengths_no (p : Int) (u : Value) (xs : List (Int × Int)) (B T : Nat) (w : World) (h : PairsIn 50 w B T u xs) (hg : ¬ goodC p xs) :
    Calls Try.prog 33 #[.int .i64 p, u] w (Gives (IntsIn 3) w [] false) := by
  go_enter Try.func33, Try.ntmps33
  go_wp2_with (first | (go_at_call 18; (with_reducible refine (AreChords_no p u xs B T _ h hg).mono ?_); rintro e w1 ⟨rfl, hb1⟩))
  go_ret2
  exact giveNoInts hb1

set_option maxHeartbeats 600000 in
theorem iChordLengths_yes (p : Int) (u : Value) (xs : List (Int × Int)) (B T : Nat) (w : World) (h : PairsIn 50 w B T u xs) (hT : T ≤ w.heap.size) (hg : goodC p xs) :
    Calls Try.prog 33 #[.int .i64 p, u] w (Gives (IntsIn 3) w (xs.map (lenC p)) true) := by
  have hl := hg.2.1
  have HH := Lib.hid h
  have HG := Lib.hid hg
  have hp60 := hg.1.2
  have HO := Lib.hid (fun k hk => (hg.2.2 k hk).1)
  have HE := Lib.hid (map_range_getD (lenC p) xs (0, 0))
  obtain ⟨a1, c1, g1, rfl, ha1, hmm, hx1, hy1⟩ := h.pairs.view
  have HA := Lib.hid ha1
  have X := Lib.hid hx1
  have Y := Lib.hid hy1
  clear h ha1 hx1 hy1 hmm hg
  obtain ⟨n, hnn⟩ : ∃ n, n = xs.length := ⟨_, rfl⟩
  rw [← hnn] at HA X Y hl HE ⊢
  have HNN := Lib.hid hnn
  have hmk := make_ints (P := Try.prog) Try.underlying39 info_int n (by omega)
  clear hnn
  go_enter Try.func33, Try.ntmps33
  go_wp2_with (first | (go_at_call 18; (with_reducible refine (AreChords_yes p _ xs B T _ (by rw [HNN.out]; exact HH.out) HG.out).mono ?_); rintro e w1 ⟨rfl, hb1⟩; have hz1 := hb1.size))
  go_loopw [18] (fun i wr => ∃ k : Nat, k ≤ n ∧ i = .int .i64 k ∧ Ints wr w1.heap.size 3 (.slice (some ⟨w1.heap.size, 0, none⟩) n n) (fillTo (fun i => lenC p (xs.getD i (0, 0))) n k) ∧ Below w.heap.size w wr ∧ w1.heap.size < wr.heap.size) (fun i _ => n - (intOf i).toNat)
  case atStart => exact ⟨0, by omega, rfl, by rw [fillTo_zero]; exact Ints.made w1 w1.heap.size _ n (Nat.le_refl _) (by omega), by go_grown, by simp⟩
  case round =>
    obtain ⟨k, hk, rfl, hI, hB, hz⟩ := hrel
    by_cases hlt : k < n
    · obtain rfl := HA.out (by omega)
      obtain ⟨x, y, hxy⟩ : ∃ x y, xs.getD k (0, 0) = (x, y) := ⟨_, _, rfl⟩
      have cx : wr.cell? ⟨g1, k * 2, none⟩ = _ := (hB.cell (p := ⟨g1, k * 2, none⟩) (World.block_lt_of_cell? w _ (X.out k hlt))).trans (X.out k hlt)
      have cy : wr.cell? ⟨g1, k * 2 + 1, none⟩ = _ := (hB.cell (p := ⟨g1, k * 2 + 1, none⟩) (World.block_lt_of_cell? w _ (Y.out k hlt))).trans (Y.out k hlt)
      have hord := HO.out k (by have := HNN.out; omega)
      rw [hxy] at cx cy hord
      simp only at cx cy hord
      obtain ⟨o1, o2, o3⟩ := hord
      obtain ⟨d, hd⟩ : ∃ d, d = y - x := ⟨_, rfl⟩
      obtain ⟨e, he⟩ : ∃ e, e = p - d := ⟨_, rfl⟩
      obtain ⟨L, hL⟩ : ∃ L, L = lenC p (x, y) := ⟨_, rfl⟩
      have hLe : L = min d e := by rw [hL, he, hd]; rfl
      have w1' : IntKind.i64.wrap (y - x) = d := by rw [IntKind.wrap_i64]; omega
      have w2' : IntKind.i64.wrap (p - d) = e := by rw [IntKind.wrap_i64]; omega
      have hmn : (if e < d then e else d) = L := by rw [hLe]; split <;> omega
      have HF := Lib.hid (fillTo_set (fun i => lenC p (xs.getD i (0, 0))) n k hlt)
      have HFK := Lib.hid (show lenC p (xs.getD k (0, 0)) = L by rw [hxy, hL])
      have HS := Lib.hid (hI.stored k L)
      have ff := hI.frozenAt k
      have c0 := hI.cellAt k (by rw [fillTo_length _ _ _ hk]; omega)
      have HB3 := Lib.hid ((hI.mono hz1).below hB (by omega) HS.out.2)
      clear hxy hd he hL hLe hI
      go_wp2
      go_roundw
      case rel => exact ⟨k + 1, by omega, by go_num, by rw [← HF.out]; refine Ints.later ?_ ((Below.refl _ _).alloc (Nat.le_refl _) _); exact HFK.out ▸ HS.out.1, HB3.out.alloc (by simp; omega) _, by simp; omega⟩
      case measure => simp [intOf]; omega
    · obtain rfl : k = n := by omega
      rw [fillTo_all, HE.out] at hI
      go_wp2
      go_ret2
      exact giveInts true hI hz1 hB

theorem walk_ChordLengths (p : Int) (v : Value) (xs : List (Int × Int)) (w : World) (_ : (Lit.int .i64 p).wf = true) (hA : ArgP w v xs) :
    Calls Try.prog 8 #[.int .i64 p, v] w fun e w' => e = .returned (.bool true) ∧ Below w.heap.size w w' := by
  by_cases hn : xs.length ≤ 1048576
  · by_cases hg : goodC p xs
    · exact core_ChordLengths p v xs _ _ w hA hn (by have := hg.2.1; simp; omega) (fun W u B T h hT => sChordLengths_yes p u xs B T W h hT hg) (fun W u B T h hT => iChordLengths_yes p u xs B T W h hT hg)
    · exact core_ChordLengths p v xs [] false w hA hn (by simp) (fun W u B T h hT => sChordLengths_no p u xs B T W h hg) (fun W u B T h hT => iChordLengths_no p u xs B T W h hg)
  · exact long_ChordLengths p v xs w hA hn

end Go.Proofs.Ytenkokkhdcjcaaa
