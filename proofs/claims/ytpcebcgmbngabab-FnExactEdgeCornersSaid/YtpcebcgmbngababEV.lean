/- The edge of threads: its threads, the law. -/
import Derived.Test.YtpcebcgmbngababEE
import Derived.Test.YtpcebcgmbngababUGi
import Derived.Test.YtpcebcgmbngababV1
namespace Go.Proofs.Ytpcebcgmbngabab
open Go.RowKit
set_option linter.unusedVariables false

theorem edge_at {xs : List (Int × Int)} (hg : goodT xs) : ∀ f k, k < xs.length → xs.length ≤ f + k →
    (edgeF xs f k).length = (cornersF xs f k).length + 1 ∧ (cornersF xs f k).length < xs.length - k ∧ cellsOf (cornersF xs f k) = 4 * (cornersF xs f k).length ∧ (edgeF xs f k).getD 0 0 = (k : Nat) ∧
      ∀ i, i < (cornersF xs f k).length → ∃ a b : Nat, a < xs.length ∧ b < xs.length ∧ candE xs a b = true ∧ (edgeF xs f k).getD i 0 = (a : Nat) ∧ (edgeF xs f k).getD (i + 1) 0 = (b : Nat) ∧ (cornersF xs f k).getD i [] = mtE xs a b
  | 0, k, hk, hf => by omega
  | f + 1, k, hk, hf => by
    rw [edgeF, cornersF]
    cases hn : nxtE xs k xs.length with
    | none => exact ⟨rfl, by simp; omega, rfl, rfl, fun i hi => by simp at hi⟩
    | some j =>
      have hj := nxt_some _ _ hn
      have hkj := cand_after hg hk hj.2
      obtain ⟨h1, h2, h3, h4, h5⟩ := edge_at hg f j hj.1 (by omega)
      refine ⟨by simp [h1], by simp; omega, ?_, rfl, fun i hi => ?_⟩
      · show cellsOf (mtE xs k j :: cornersF xs f j) = 4 * ((cornersF xs f j).length + 1)
        unfold cellsOf at h3 ⊢
        rw [List.map_cons, List.sum_cons, h3, show (mtE xs k j).length = 4 from rfl]
        omega
      · cases i with
        | zero => exact ⟨k, j, hk, hj.1, hj.2, rfl, h4, rfl⟩
        | succ i =>
          simp at hi
          obtain ⟨a, b, q⟩ := h5 i hi
          exact ⟨a, b, q⟩

theorem edgeT_len {xs : List (Int × Int)} (hg : goodT xs) : (edgeT xs).length = (cornersT xs).length + 1 ∧ (cornersT xs).length < 30 ∧ cellsOf (cornersT xs) = 4 * (cornersT xs).length := by
  have h0 : 0 < xs.length := hg.1.1
  have h1 : xs.length ≤ 30 := hg.1.2
  obtain ⟨q1, q2, q3, _⟩ := edge_at hg xs.length (startE xs xs.length) (startE_lt xs h0 _ (Nat.le_refl _)) (by omega)
  exact ⟨q1, by unfold cornersT; omega, q3⟩

set_option maxHeartbeats 1000000 in
theorem iEdgeThreads_no (u : Value) (xs : List (Int × Int)) (B T : Nat) (w : World) (h : PairsIn 82 w B T u xs) (hT : T ≤ w.heap.size) (hg : ¬ goodT xs) :
    Calls Try.prog 30 #[u] w (Gives (IntsIn 3) w [] false) := by
  go_enter Try.func30, Try.ntmps30
  go_wp2_with (first | (go_at_call 64; (with_reducible refine (AreThreads_no u xs B T _ h hg).mono ?_); rintro e w1 ⟨rfl, hb1⟩))
  go_ret2
  exact ⟨_, rfl, IntsIn.nil _ _ _ _, hb1⟩

set_option maxHeartbeats 1000000 in
theorem sEdgeThreads_no (u : Value) (xs : List (Int × Int)) (B T : Nat) (w : World) (h : PairsIn 82 w B T u xs) (hT : T ≤ w.heap.size) (hg : ¬ goodT xs) :
    Calls Try.prog 28 #[u] w (Gives (IntsIn 3) w [] false) := by
  go_enter Try.func28, Try.ntmps28
  go_wp2_with (first | (go_at_call 61; (with_reducible refine (sgGood_no u xs B T _ h hg).mono ?_); rintro e w1 ⟨rfl, hb1⟩))
  go_ret2
  exact ⟨_, rfl, IntsIn.nil _ _ _ _, hb1⟩

set_option maxHeartbeats 1000000 in
theorem sEdgeThreads_yes (u : Value) (xs : List (Int × Int)) (B T : Nat) (w : World) (h : PairsIn 82 w B T u xs) (hT : T ≤ w.heap.size) (hg : goodT xs) :
    Calls Try.prog 28 #[u] w (Gives (IntsIn 3) w (edgeT xs) true) := by
  have HU := Lib.hid h
  have HG := Lib.hid hg
  clear h hg
  go_enter Try.func28, Try.ntmps28
  go_wp2_with (first
    | (go_at_call 61; (with_reducible refine (sgGood_yes u xs B T _ HU.out HG.out).mono ?_); rintro e w1 ⟨rfl, hb1⟩; have hz1 := hb1.size; have HU1 := Lib.hid (HU.out.keep (belowSame hb1 hT)))
    | (go_at_call 62; (with_reducible refine (sgEdge_any u xs B T _ HU1.out (by omega) HG.out).mono ?_); rintro e w2 ⟨v1, v2, rfl, hI, hR, hb2⟩))
  go_ret2
  exact ⟨_, rfl, hI.widen hz1 (Nat.le_refl _), hb1.trans (hb2.mono hz1)⟩

set_option maxHeartbeats 1000000 in
theorem sEdgeCorners_no (u : Value) (xs : List (Int × Int)) (B T : Nat) (w : World) (h : PairsIn 82 w B T u xs) (hT : T ≤ w.heap.size) (hg : ¬ goodT xs) :
    Calls Try.prog 36 #[u] w (Gives (RowsIn 39 3) w [] false) := by
  go_enter Try.func36, Try.ntmps36
  go_wp2_with (first | (go_at_call 61; (with_reducible refine (sgGood_no u xs B T _ h hg).mono ?_); rintro e w1 ⟨rfl, hb1⟩))
  go_ret2
  exact ⟨_, rfl, RowsIn.nil _ _ _ _ _, hb1⟩

set_option maxHeartbeats 1000000 in
theorem sEdgeCorners_yes (u : Value) (xs : List (Int × Int)) (B T : Nat) (w : World) (h : PairsIn 82 w B T u xs) (hT : T ≤ w.heap.size) (hg : goodT xs) :
    Calls Try.prog 36 #[u] w (Gives (RowsIn 39 3) w (cornersT xs) true) := by
  have HU := Lib.hid h
  have HG := Lib.hid hg
  clear h hg
  go_enter Try.func36, Try.ntmps36
  go_wp2_with (first
    | (go_at_call 61; (with_reducible refine (sgGood_yes u xs B T _ HU.out HG.out).mono ?_); rintro e w1 ⟨rfl, hb1⟩; have hz1 := hb1.size; have HU1 := Lib.hid (HU.out.keep (belowSame hb1 hT)))
    | (go_at_call 62; (with_reducible refine (sgEdge_any u xs B T _ HU1.out (by omega) HG.out).mono ?_); rintro e w2 ⟨v1, v2, rfl, hI, hR, hb2⟩))
  go_ret2
  exact ⟨_, rfl, (by obtain ⟨vs, hR⟩ := hR; exact ⟨vs, hR.lower hz1⟩), hb1.trans (hb2.mono hz1)⟩

set_option maxHeartbeats 1000000 in
theorem core_EdgeThreads (v : Value) (xs : List (Int × Int)) (x : List Int) (b : Bool) (w : World) (hA : ArgP w v xs) (hn : xs.length ≤ 1048576) (hx : x.length ≤ 1000000)
    (hs : ∀ (W : World) (u : Value) (B T : Nat), PairsIn 82 W B T u xs → T ≤ W.heap.size → Calls Try.prog 28 #[u] W (Gives (IntsIn 3) W x b))
    (hi : ∀ (W : World) (u : Value) (B T : Nat), PairsIn 82 W B T u xs → T ≤ W.heap.size → Calls Try.prog 30 #[u] W (Gives (IntsIn 3) W x b)) :
    Calls Try.prog 9 #[v] w fun e w' => e = .returned (.bool true) ∧ Below w.heap.size w w' := by
  have hA1 := hA
  obtain ⟨a0, cap, a, rfl, _⟩ := hA1
  have HS := Lib.hid hs
  have HI := Lib.hid hi
  have HA := Lib.hid hA
  clear hs hi hA
  go_enter Try.func9, Try.ntmps9
  go_wp2_with fail
  refine (szThreadS_yes _ _ _ _ hn).mono ?_
  rintro e w0 ⟨rfl, rfl⟩
  go_wp2_with fail
  refine (toThreadS_any _ _ _ (HA.out.later (by go_grown)) hn).mono ?_
  rintro e w1 ⟨va, rfl, ka_1, hb1⟩
  have n1 : w.heap.size ≤ w1.heap.size := by have := hb1.size; (try simp at this); omega
  have B1 : Below w.heap.size w w1 := Below.trans (by go_grown) (hb1.mono (by first | (simp; done) | (simp; omega)))
  go_wp2_with fail
  refine (HS.out _ _ _ _ ka_1 (by omega)).mono ?_
  rintro e w2 ⟨vw, rfl, kw_2, hb2⟩
  have n2 := hb2.size
  have B2 := B1.trans (hb2.mono (by omega))
  have ka_2 := ka_1.keep (belowSame hb2 (by omega))
  go_wp2_with fail
  refine (toThreadS_any _ _ _ (HA.out.later B2) hn).mono ?_
  rintro e w3 ⟨vc, rfl, kc_3, hb3⟩
  have n3 := hb3.size
  have B3 := B2.trans (hb3.mono (by omega))
  have ka_3 := ka_2.keep (belowSame hb3 (by omega))
  have kw_3 := kw_2.keep (belowSame hb3 (by omega))
  go_wp2_with fail
  refine (HI.out _ _ _ _ kc_3 (by omega)).mono ?_
  rintro e w4 ⟨vg, rfl, kg_4, hb4⟩
  have n4 := hb4.size
  have B4 := B3.trans (hb4.mono (by omega))
  have ka_4 := ka_3.keep (belowSame hb4 (by omega))
  have kw_4 := kw_3.keep (belowSame hb4 (by omega))
  have kc_4 := kc_3.keep (belowSame hb4 (by omega))
  go_wp2_with fail
  refine (eqIntS_in _ _ _ _ _ _ _ _ _ kg_4 kw_4).mono ?_
  rintro e w5 ⟨rfl, hb5⟩
  have n5 := hb5.size
  have B5 := B4.trans (hb5.mono (by omega))
  have ka_5 := ka_4.keep (belowSame hb5 (by omega))
  have kw_5 := kw_4.keep (belowSame hb5 (by omega))
  have kc_5 := kc_4.keep (belowSame hb5 (by omega))
  have kg_5 := kg_4.keep (belowSame hb5 (by omega))
  go_wp2_with fail
  refine (toThreadS_any _ _ _ (HA.out.later B5) hn).mono ?_
  rintro e w6 ⟨vd, rfl, kd_6, hb6⟩
  have n6 := hb6.size
  have B6 := B5.trans (hb6.mono (by omega))
  have ka_6 := ka_5.keep (belowSame hb6 (by omega))
  have kw_6 := kw_5.keep (belowSame hb6 (by omega))
  have kc_6 := kc_5.keep (belowSame hb6 (by omega))
  have kg_6 := kg_5.keep (belowSame hb6 (by omega))
  go_wp2_with fail
  refine (eqThreadS_in _ _ _ _ _ _ _ _ _ kc_6 kd_6).mono ?_
  rintro e w7 ⟨rfl, hb7⟩
  have n7 := hb7.size
  have B7 := B6.trans (hb7.mono (by omega))
  have ka_7 := ka_6.keep (belowSame hb7 (by omega))
  have kw_7 := kw_6.keep (belowSame hb7 (by omega))
  have kc_7 := kc_6.keep (belowSame hb7 (by omega))
  have kg_7 := kg_6.keep (belowSame hb7 (by omega))
  have kd_7 := kd_6.keep (belowSame hb7 (by omega))
  go_wp2_with fail
  refine (markThreadS_in _ _ 1 _ _ _ _ kc_7 (by omega) (by omega) (by omega)).mono ?_
  rintro e w8 ⟨rfl, mc_8, o8⟩
  have n8 := o8.size
  have B8 := B7.trans (o8.below (C := w.heap.size) (by omega) (by omega))
  have ka_8 := ka_7.keep (o8.same_in (by omega) (by omega))
  have kw_8 := kw_7.keep (o8.same_in (by omega) (by omega))
  have kg_8 := kg_7.keep (o8.same_in (by omega) (by omega))
  have kd_8 := kd_7.keep (o8.same_in (by omega) (by omega))
  have kc_8 := mc_8
  go_wp2_with fail
  refine (eqIntS_in _ _ _ _ _ _ _ _ _ kg_8 kw_8).mono ?_
  rintro e w9 ⟨rfl, hb9⟩
  have n9 := hb9.size
  have B9 := B8.trans (hb9.mono (by omega))
  have ka_9 := ka_8.keep (belowSame hb9 (by omega))
  have kw_9 := kw_8.keep (belowSame hb9 (by omega))
  have kc_9 := kc_8.keep (belowSame hb9 (by omega))
  have kg_9 := kg_8.keep (belowSame hb9 (by omega))
  have kd_9 := kd_8.keep (belowSame hb9 (by omega))
  go_wp2_with fail
  refine (markIntS_in _ _ 1 _ _ _ _ kg_9 (by omega) (by omega) (by omega)).mono ?_
  rintro e w10 ⟨rfl, mg_10, o10⟩
  have n10 := o10.size
  have B10 := B9.trans (o10.below (C := w.heap.size) (by omega) (by omega))
  have ka_10 := ka_9.keep (o10.same_in (by omega) (by omega))
  have kw_10 := kw_9.keep (o10.same_in (by omega) (by omega))
  have kc_10 := kc_9.keep (o10.same_in (by omega) (by omega))
  have kd_10 := kd_9.keep (o10.same_in (by omega) (by omega))
  have kg_10 := mg_10
  go_wp2_with fail
  refine (heldIntS_in _ 1 _ _ _ _ _ kg_10 (by omega) (by omega) (by omega)).mono ?_
  rintro e w11 ⟨rfl, hb11⟩
  have n11 := hb11.size
  have B11 := B10.trans (hb11.mono (by omega))
  have ka_11 := ka_10.keep (belowSame hb11 (by omega))
  have kw_11 := kw_10.keep (belowSame hb11 (by omega))
  have kc_11 := kc_10.keep (belowSame hb11 (by omega))
  have kg_11 := kg_10.keep (belowSame hb11 (by omega))
  have kd_11 := kd_10.keep (belowSame hb11 (by omega))
  go_wp2_with fail
  refine (toThreadS_any _ _ _ (HA.out.later B11) hn).mono ?_
  rintro e w12 ⟨ve, rfl, ke_12, hb12⟩
  have n12 := hb12.size
  have B12 := B11.trans (hb12.mono (by omega))
  have ka_12 := ka_11.keep (belowSame hb12 (by omega))
  have kw_12 := kw_11.keep (belowSame hb12 (by omega))
  have kc_12 := kc_11.keep (belowSame hb12 (by omega))
  have kg_12 := kg_11.keep (belowSame hb12 (by omega))
  have kd_12 := kd_11.keep (belowSame hb12 (by omega))
  go_wp2_with fail
  refine (HI.out _ _ _ _ ke_12 (by omega)).mono ?_
  rintro e w13 ⟨vh, rfl, kh_13, hb13⟩
  have n13 := hb13.size
  have B13 := B12.trans (hb13.mono (by omega))
  have ka_13 := ka_12.keep (belowSame hb13 (by omega))
  have kw_13 := kw_12.keep (belowSame hb13 (by omega))
  have kc_13 := kc_12.keep (belowSame hb13 (by omega))
  have kg_13 := kg_12.keep (belowSame hb13 (by omega))
  have kd_13 := kd_12.keep (belowSame hb13 (by omega))
  have ke_13 := ke_12.keep (belowSame hb13 (by omega))
  go_wp2_with fail
  refine (eqIntS_in _ _ _ _ _ _ _ _ _ kh_13 kw_13).mono ?_
  rintro e w14 ⟨rfl, hb14⟩
  have n14 := hb14.size
  have B14 := B13.trans (hb14.mono (by omega))
  have ka_14 := ka_13.keep (belowSame hb14 (by omega))
  have kw_14 := kw_13.keep (belowSame hb14 (by omega))
  have kc_14 := kc_13.keep (belowSame hb14 (by omega))
  have kg_14 := kg_13.keep (belowSame hb14 (by omega))
  have kd_14 := kd_13.keep (belowSame hb14 (by omega))
  have ke_14 := ke_13.keep (belowSame hb14 (by omega))
  have kh_14 := kh_13.keep (belowSame hb14 (by omega))
  go_wp2_with fail
  refine (heldIntS_in _ 1 _ _ _ _ _ kg_14 (by omega) (by omega) (by omega)).mono ?_
  rintro e w15 ⟨rfl, hb15⟩
  have n15 := hb15.size
  have B15 := B14.trans (hb15.mono (by omega))
  have ka_15 := ka_14.keep (belowSame hb15 (by omega))
  have kw_15 := kw_14.keep (belowSame hb15 (by omega))
  have kc_15 := kc_14.keep (belowSame hb15 (by omega))
  have kg_15 := kg_14.keep (belowSame hb15 (by omega))
  have kd_15 := kd_14.keep (belowSame hb15 (by omega))
  have ke_15 := ke_14.keep (belowSame hb15 (by omega))
  have kh_15 := kh_14.keep (belowSame hb15 (by omega))
  go_wp2_with fail
  go_ret
  exact ⟨rfl, B15⟩

set_option maxHeartbeats 400000 in
theorem long_EdgeThreads (v : Value) (xs : List (Int × Int)) (w : World) (hA : ArgP w v xs) (hn : ¬ xs.length ≤ 1048576) :
    Calls Try.prog 9 #[v] w fun e w' => e = .returned (.bool true) ∧ Below w.heap.size w w' := by
  obtain ⟨a0, cap, a, rfl, _, hm, _⟩ := hA
  go_enter Try.func9, Try.ntmps9
  go_wp2_with fail
  refine (szThreadS_no _ _ _ _ (by omega) hm).mono ?_
  rintro e w0 ⟨rfl, rfl⟩
  go_wp2_with fail
  go_ret
  exact ⟨rfl, by go_grown⟩

theorem walk_EdgeThreads (v : Value) (xs : List (Int × Int)) (w : World) (hA : ArgP w v xs) :
    Calls Try.prog 9 #[v] w fun e w' => e = .returned (.bool true) ∧ Below w.heap.size w w' := by
  by_cases hn : xs.length ≤ 1048576
  · by_cases hg : goodT xs
    · exact core_EdgeThreads v xs _ _ w hA hn (by have := edgeT_len hg; omega) (fun W u B T h hT => sEdgeThreads_yes u xs B T W h hT hg) (fun W u B T h hT => iEdgeThreads_yes u xs B T W h hT hg)
    · exact core_EdgeThreads v xs [] false w hA hn (by simp) (fun W u B T h hT => sEdgeThreads_no u xs B T W h hT hg) (fun W u B T h hT => iEdgeThreads_no u xs B T W h hT hg)
  · exact long_EdgeThreads v xs w hA hn

end Go.Proofs.Ytpcebcgmbngabab
