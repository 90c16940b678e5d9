/- The corners of the edge: the program, and the law. -/
import Derived.Test.YtpcebcgmbngababEV
import Derived.Deep.AppendLies
namespace Go.Proofs.Ytpcebcgmbngabab
open Go.RowKit
set_option linter.unusedVariables false

set_option maxHeartbeats 400000 in
theorem numbersE_any (ax bx ay cy : Int) (w : World) :
    Calls Try.prog 69 #[.agg #[.int .i64 ax, .int .i64 bx, .int .i64 ay, .int .i64 cy]] w (GivesInts w [ax, bx, ay, cy]) := by
  go_enter Try.func69, Try.ntmps69
  go_wp2
  go_ret
  have hI := Ints.boxed (w.alloc (.cells #[.int .i64 ax, .int .i64 bx, .int .i64 ay, .int .i64 cy] 91)) w.heap.size 3 [ax, bx, ay, cy] (by simp) (by simp)
  rw [World.size_alloc] at hI
  exact ⟨_, rfl, hI, by go_grown⟩

theorem ints_open {e : TypeId} {w : World} {B T : Nat} {v : Value} {xs : List Int} (h : IntsIn e w B T v xs) (hn : 0 < xs.length) :
    ∃ g cap, v = .slice (some ⟨g, 0, none⟩) xs.length cap ∧ xs.length ≤ cap ∧ cap ≤ maxLen ∧ g < T ∧ ∀ i, i < xs.length → w.cell? ⟨g, i, none⟩ = some (.int .i64 (xs.getD i 0)) := by
  obtain ⟨a0, cap0, g0, hv0, ha0, _, _, _, hc, _⟩ := h.1.view
  have h1 := h.1.2
  rcases h1 with ⟨_, h2⟩ | ⟨g, cap, cur, hv, hB, hg, hn2, hm, hs, ht⟩
  · omega
  · subst hv
    have e := ha0 hn
    simp only [Value.slice.injEq] at hv0
    rw [← hv0.1] at e
    simp only [Option.some.injEq, Addr.mk.injEq, and_true] at e
    subst e
    exact ⟨g, cap, rfl, hn2, hm, h.2 g rfl, hc⟩

theorem take_more {α : Type} (l : List α) (i : Nat) (z : α) (h : i < l.length) : l.take (i + 1) = l.take i ++ [l.getD i z] := by
  rw [List.getD_eq_getElem?_getD, List.getElem?_eq_getElem h, List.take_add_one, List.getElem?_eq_getElem h]
  rfl

set_option maxHeartbeats 4000000 in
set_option maxRecDepth 10000 in
theorem iEdgeCorners_yes (u : Value) (xs : List (Int × Int)) (B T : Nat) (w : World) (h : PairsIn 82 w B T u xs) (hT : T ≤ w.heap.size) (hg : goodT xs) :
    Calls Try.prog 37 #[u] w (Gives (RowsIn 39 3) w (cornersT xs) true) := by
  have HU := Lib.hid h
  have HG := Lib.hid hg
  have hn1 : 0 < xs.length := hg.1.1
  have hn : xs.length ≤ 30 := hg.1.2
  obtain ⟨g1, c1, rfl⟩ := list_form h hn1
  obtain ⟨i0, hi0, hz0', hz1', hz2'⟩ := info_parts info_ints
  obtain ⟨_, _, _, _, hat⟩ := edge_at hg xs.length (startE xs xs.length) (startE_lt xs hn1 _ (Nat.le_refl _)) (by omega)
  obtain ⟨q1, q2, q3⟩ := edgeT_len hg
  change ∀ i, i < (cornersT xs).length → ∃ a b : Nat, a < xs.length ∧ b < xs.length ∧ candE xs a b = true ∧ (edgeT xs).getD i 0 = (a : Nat) ∧ (edgeT xs).getD (i + 1) 0 = (b : Nat) ∧ (cornersT xs).getD i [] = mtE xs a b at hat
  have HTK := Lib.hid (fun i h => take_more (cornersT xs) i [] h)
  obtain ⟨n, hL⟩ : ∃ n, (cornersT xs).length = n := ⟨_, rfl⟩
  rw [hL] at q1 q2 hat HTK
  have HAT := Lib.hid hat
  have HL := Lib.hid hL
  clear h hg hat q3 hL
  go_enter Try.func37, Try.ntmps37
  go_wp2_with (first
    | (go_at_call 30; (with_reducible refine (iEdgeThreads_yes _ xs B T _ HU.out hT HG.out).mono ?_); rintro e w1 ⟨ve, rfl, hI, hb1⟩; have hz1 := hb1.size; obtain ⟨ge, ce, rfl, hce, hmx, hge, hcc⟩ := ints_open hI (by omega); rw [q1] at hce hcc ⊢; have HCC := Lib.hid hcc; have HU1 := Lib.hid (HU.out.keep (belowSame hb1 hT)); clear hI hcc))
  · obtain rfl : n = 0 := by omega
    go_loopw [6, 19] (fun c i wr => i = .int .i64 0 ∧ c = .slice none 0 0 ∧ Below w1.heap.size w1 wr) (fun _ i _ => 0)
    case atStart => exact ⟨rfl, rfl, Below.refl _ _⟩
    case round =>
      obtain ⟨rfl, rfl, hB⟩ := hrel
      go_wp2
      go_ret2
      have h0 : cornersT xs = [] := List.eq_nil_of_length_eq_zero HL.out
      rw [h0]
      exact ⟨_, rfl, RowsIn.nil _ _ _ _ _, hb1.trans (hB.mono hz1)⟩
  · go_loopw [6, 19] (fun c i wr => ∃ k : Nat, k ≤ n ∧ i = .int .i64 k ∧ Hid (∃ vs, RowsAt 39 3 wr w1.heap.size wr.heap.size c vs ((cornersT xs).take k)) ∧ Below w1.heap.size w1 wr) (fun _ i _ => n - (intOf i).toNat)
    case atStart => exact ⟨0, by omega, rfl, Lib.hid ⟨[], rfl, World.ownsRow_nil _ _ _ _, fun k hk => by simp [Value.ownBlock] at hk, fun i hi => by simp at hi, fun i j hi => by simp at hi⟩, Below.refl _ _⟩
    case round =>
      obtain ⟨k, hk, rfl, HR, hB⟩ := hrel
      have hz := hB.size
      by_cases hlt : k < n
      · obtain ⟨p, q, hp, hq, hcd, ep, eq, ec⟩ := HAT.out k hlt
        obtain ⟨a, b, hab⟩ : ∃ a b, xs.getD p (0, 0) = (a, b) := ⟨_, _, rfl⟩
        obtain ⟨c, d, hcd2⟩ : ∃ a b, xs.getD q (0, 0) = (a, b) := ⟨_, _, rfl⟩
        have HMM := Lib.hid (fun W => meetingOf_e a b c d W (by have := HG.out.at p hp; rw [hab] at this; exact this) (by have := HG.out.at q hq; rw [hcd2] at this; exact this) (by unfold candE at hcd; rw [Bool.and_eq_true, hab, hcd2] at hcd; exact hcd.2))
        have HEC := Lib.hid (show (cornersT xs).getD k [] = meetL a b c d by rw [ec]; unfold mtE; rw [hab, hcd2])
        obtain ⟨x0, x1⟩ := elem_cells HU1.out p hp a b hab
        obtain ⟨x2, x3⟩ := elem_cells HU1.out q hq c d hcd2
        have x4 := HCC.out k (by omega)
        have x5 := HCC.out (k + 1) (by omega)
        rw [ep] at x4
        rw [eq, Nat.add_comm k 1] at x5
        have KX := Lib.hid (show ∀ w', Below w1.heap.size w1 w' → w'.cell? ⟨g1, p * 2, none⟩ = some (.int .i64 a) ∧ w'.cell? ⟨g1, p * 2 + 1, none⟩ = some (.int .i64 b) ∧ w'.cell? ⟨g1, q * 2, none⟩ = some (.int .i64 c) ∧ w'.cell? ⟨g1, q * 2 + 1, none⟩ = some (.int .i64 d) ∧ w'.cell? ⟨ge, k, none⟩ = some (.int .i64 (p : Nat)) from fun w' hb => ⟨cellB hb x0, cellB hb x1, cellB hb x2, cellB hb x3, cellB hb x4⟩)
        obtain ⟨y0, y1, y2, y3, y4⟩ := KX.out _ hB
        have y5 := cellB hB x5
        obtain ⟨vs, hR⟩ := HR.out
        have hvl : vs.length = k := by have := hR.len; simp at this; have := HL.out; omega
        have HRR := Lib.hid hR
        have k1 : 0 ≤ (k : Int) := by omega
        have k2 : (k : Int) < (n : Int) := by omega
        have k3 : (k : Int) < (n : Int) + 1 := by omega
        have k4 : (k : Int) < ((n + 1 : Nat) : Int) := by omega
        have p1 : 0 ≤ (p : Int) := by omega
        have p2 : (p : Int) < (xs.length : Int) := by omega
        have r1 : 0 ≤ (q : Int) := by omega
        have r2 : (q : Int) < (xs.length : Int) := by omega
        clear hab hcd2 x0 x1 x2 x3 x4 x5 ep eq ec hcd HR hR
        go_wp2
        go_region_held3 (fun w' => w'.cell? ⟨g1, p * 2, none⟩ = some (.int .i64 a) ∧ w'.cell? ⟨g1, p * 2 + 1, none⟩ = some (.int .i64 b) ∧ w'.cell? ⟨g1, q * 2, none⟩ = some (.int .i64 c) ∧ w'.cell? ⟨g1, q * 2 + 1, none⟩ = some (.int .i64 d) ∧ w'.cell? ⟨ge, k, none⟩ = some (.int .i64 (p : Nat)))
          (first | go_keep | exact KX.out _ (by assumption) | exact KX.out _ (bdn (by assumption) _))
          (first
            | (go_at_call 68; (with_reducible refine (HMM.out _).mono ?_); rintro e w2 ⟨⟨ax, bx, ay, cy, hML, rfl⟩, hb2⟩; have HML := Lib.hid hML; (have hb2' : Below wr.heap.size wr w2 := Below.trans (by go_grown) (hb2.mono (by simp))); have hB2 := hB.trans (hb2'.mono hz); clear hML)
            | (go_at_call 69; (with_reducible refine (numbersE_any _ _ _ _ _).mono ?_); rintro e w3 ⟨v3, rfl, hI3, hb3⟩; (have hb3' : Below wr.heap.size wr w3 := Below.trans hb2' (Below.trans (by go_grown) (hb3.mono (by simp)) |>.mono hb2'.size)); have hB3 := hB.trans (hb3'.mono hz); have hz3 := hb3'.size; (have HI3 := Lib.hid (show Ints w3 wr.heap.size 3 v3 ((cornersT xs).getD k []) by rw [HEC.out, HML.out]; exact hI3.mono (by have := hb2'.size; simp; omega))); obtain ⟨a8, c8, rfl⟩ := hI3.opened; (have HR3 := Lib.hid (HRR.out.keep (belowSame hb3' (Nat.le_refl _)))); clear hI3)
            | ((refine step_append_lies _ (by rfl) _ _ _ (by rfl) w1.heap.size 39 i0 _ 1 24 Try.underlying49 hi0 hz0' hz1' hz2' rfl (by omega) _ vs.length vs (by rfl) ((World.ownsRow.alloc HR3.out.outer _).drew) ⟨w3.heap.size, 0, none⟩ 1 1 [.slice a8 4 c8] (by rfl) (by rfl) (World.news_of_block (cs := #[.slice a8 4 c8]) (t := 39) (fr := (0, 0)) (heap_alloc_new w3 _)) (by simp [Value.oneCell']) (by omega) (by unfold maxLen; omega) (by omega) (by simp; omega) (w3.heap.size + 1) (by simp) ?_); intro gg cap4 w4 hown4 hgrow hat hlt4; (have hB4 : Below w1.heap.size w1 w4 := Below.grown (hB3.trans ((show Below w3.heap.size w3 (w3.alloc (.cells #[.slice a8 4 c8] 39)) from by go_grown).mono (by omega))) hgrow (by simp; omega) (fun j hj => (HR3.out.outer.lt j hj).1))))
        go_wp2
        go_roundw
        case rel =>
          refine ⟨k + 1, by omega, by go_num, Lib.hid ⟨vs ++ [.slice a8 4 c8], ?_⟩, by first | exact hB4 | exact bdn hB4 _⟩
          have hba : Below w3.heap.size w3 (w3.alloc (.cells #[.slice a8 4 c8] 39)) := by go_grown
          have h1 := HR3.out.keep (belowSame hba hz3)
          have h2 : IntsIn 3 (w3.alloc (.cells #[.slice a8 4 c8] 39)) wr.heap.size w3.heap.size (.slice a8 4 c8) ((cornersT xs).getD k []) := ⟨HI3.out.later hba, fun b hb => (HI3.out.own b hb).2⟩
          have hsz := hgrow.size
          rw [World.size_alloc] at hsz
          rw [HTK.out k hlt]
          exact h1.more (by decide) h2 (by omega) hz3 (by omega) (by have h3 := hown4; rw [hvl] at h3; rw [List.length_append, hvl]; exact h3) hgrow
        case measure => simp [intOf]; omega
      · obtain rfl : k = n := by omega
        go_wp2
        go_ret2
        obtain ⟨vs, hR⟩ := HR.out
        rw [List.take_of_length_le (by rw [HL.out]; omega)] at hR
        exact ⟨_, rfl, ⟨vs, hR.lower hz1⟩, hb1.trans (hB.mono hz1)⟩

set_option maxHeartbeats 1000000 in
theorem iEdgeCorners_no (u : Value) (xs : List (Int × Int)) (B T : Nat) (w : World) (h : PairsIn 82 w B T u xs) (hT : T ≤ w.heap.size) (hg : ¬ goodT xs) :
    Calls Try.prog 37 #[u] w (Gives (RowsIn 39 3) w [] false) := by
  go_enter Try.func37, Try.ntmps37
  go_wp2_with (first | (go_at_call 30; (with_reducible refine (iEdgeThreads_no u xs B T _ h hT hg).mono ?_); rintro e w1 ⟨ve, rfl, _, hb1⟩))
  go_ret2
  exact ⟨_, rfl, RowsIn.nil _ _ _ _ _, hb1⟩

set_option maxHeartbeats 1000000 in
theorem core_EdgeCorners (v : Value) (xs : List (Int × Int)) (x : List (List Int)) (b : Bool) (w : World) (hA : ArgP w v xs) (hn : xs.length ≤ 1048576) (hx : cellsOf x ≤ 1000000) (hr : x.length ≤ 1000000)
    (hs : ∀ (W : World) (u : Value) (B T : Nat), PairsIn 82 W B T u xs → T ≤ W.heap.size → Calls Try.prog 36 #[u] W (Gives (RowsIn 39 3) W x b))
    (hi : ∀ (W : World) (u : Value) (B T : Nat), PairsIn 82 W B T u xs → T ≤ W.heap.size → Calls Try.prog 37 #[u] W (Gives (RowsIn 39 3) W x b)) :
    Calls Try.prog 10 #[v] w fun e w' => e = .returned (.bool true) ∧ Below w.heap.size w w' := by
  have hA1 := hA
  obtain ⟨a0, cap, a, rfl, _⟩ := hA1
  have HS := Lib.hid hs
  have HI := Lib.hid hi
  have HA := Lib.hid hA
  clear hs hi hA
  go_enter Try.func10, Try.ntmps10
  go_wp2_with fail
  refine (szThreadS_yes _ _ _ _ hn).mono ?_
  rintro e w0 ⟨rfl, rfl⟩
  go_wp2_with fail
  refine (toThreadS_any _ _ _ (HA.out.later (by go_grown)) hn).mono ?_
  rintro e w1 ⟨va, rfl, ka_1, hb1⟩
  have n1 : w.heap.size ≤ w1.heap.size := by have := hb1.size; (try simp at this); omega
  have B1 : Below w.heap.size w w1 := Below.trans (by go_grown) (hb1.mono (by first | (simp; done) | (simp; omega)))
  go_wp2_with fail
  refine (HS.out _ _ _ _ ka_1 (by omega)).mono ?_
  rintro e w2 ⟨vw, rfl, kw_2, hb2⟩
  have n2 := hb2.size
  have B2 := B1.trans (hb2.mono (by omega))
  have ka_2 := ka_1.keep (belowSame hb2 (by omega))
  go_wp2_with fail
  refine (toThreadS_any _ _ _ (HA.out.later B2) hn).mono ?_
  rintro e w3 ⟨vc, rfl, kc_3, hb3⟩
  have n3 := hb3.size
  have B3 := B2.trans (hb3.mono (by omega))
  have ka_3 := ka_2.keep (belowSame hb3 (by omega))
  have kw_3 := kw_2.keep (belowSame hb3 (by omega))
  go_wp2_with fail
  refine (HI.out _ _ _ _ kc_3 (by omega)).mono ?_
  rintro e w4 ⟨vg, rfl, kg_4, hb4⟩
  have n4 := hb4.size
  have B4 := B3.trans (hb4.mono (by omega))
  have ka_4 := ka_3.keep (belowSame hb4 (by omega))
  have kw_4 := kw_3.keep (belowSame hb4 (by omega))
  have kc_4 := kc_3.keep (belowSame hb4 (by omega))
  go_wp2_with fail
  refine (eqIntSS_in _ _ x _ _ _ _ _ _ _ kg_4 kw_4).mono ?_
  rintro e w5 ⟨rfl, hb5⟩
  have n5 := hb5.size
  have B5 := B4.trans (hb5.mono (by omega))
  have ka_5 := ka_4.keep (belowSame hb5 (by omega))
  have kw_5 := kw_4.keep (belowSame hb5 (by omega))
  have kc_5 := kc_4.keep (belowSame hb5 (by omega))
  have kg_5 := kg_4.keep (belowSame hb5 (by omega))
  go_wp2_with fail
  refine (toThreadS_any _ _ _ (HA.out.later B5) hn).mono ?_
  rintro e w6 ⟨vd, rfl, kd_6, hb6⟩
  have n6 := hb6.size
  have B6 := B5.trans (hb6.mono (by omega))
  have ka_6 := ka_5.keep (belowSame hb6 (by omega))
  have kw_6 := kw_5.keep (belowSame hb6 (by omega))
  have kc_6 := kc_5.keep (belowSame hb6 (by omega))
  have kg_6 := kg_5.keep (belowSame hb6 (by omega))
  go_wp2_with fail
  refine (eqThreadS_in _ _ _ _ _ _ _ _ _ kc_6 kd_6).mono ?_
  rintro e w7 ⟨rfl, hb7⟩
  have n7 := hb7.size
  have B7 := B6.trans (hb7.mono (by omega))
  have ka_7 := ka_6.keep (belowSame hb7 (by omega))
  have kw_7 := kw_6.keep (belowSame hb7 (by omega))
  have kc_7 := kc_6.keep (belowSame hb7 (by omega))
  have kg_7 := kg_6.keep (belowSame hb7 (by omega))
  have kd_7 := kd_6.keep (belowSame hb7 (by omega))
  go_wp2_with fail
  refine (markThreadS_in _ _ 1 _ _ _ _ kc_7 (by omega) (by omega) (by omega)).mono ?_
  rintro e w8 ⟨rfl, mc_8, o8⟩
  have n8 := o8.size
  have B8 := B7.trans (o8.below (C := w.heap.size) (by omega) (by omega))
  have ka_8 := ka_7.keep (o8.same_in (by omega) (by omega))
  have kw_8 := kw_7.keep (o8.same_in (by omega) (by omega))
  have kg_8 := kg_7.keep (o8.same_in (by omega) (by omega))
  have kd_8 := kd_7.keep (o8.same_in (by omega) (by omega))
  have kc_8 := mc_8
  go_wp2_with fail
  refine (eqIntSS_in _ _ x _ _ _ _ _ _ _ kg_8 kw_8).mono ?_
  rintro e w9 ⟨rfl, hb9⟩
  have n9 := hb9.size
  have B9 := B8.trans (hb9.mono (by omega))
  have ka_9 := ka_8.keep (belowSame hb9 (by omega))
  have kw_9 := kw_8.keep (belowSame hb9 (by omega))
  have kc_9 := kc_8.keep (belowSame hb9 (by omega))
  have kg_9 := kg_8.keep (belowSame hb9 (by omega))
  have kd_9 := kd_8.keep (belowSame hb9 (by omega))
  go_wp2_with fail
  refine (markIntSS_in _ x 1 _ _ _ _ _ kg_9 (by decide) (by omega) (by omega) (by omega) hr).mono ?_
  rintro e w10 ⟨rfl, mg_10, o10⟩
  have n10 := o10.size
  have B10 := B9.trans (o10.below (C := w.heap.size) (by omega) (by omega))
  have ka_10 := ka_9.keep (o10.same_in (by omega) (by omega))
  have kw_10 := kw_9.keep (o10.same_in (by omega) (by omega))
  have kc_10 := kc_9.keep (o10.same_in (by omega) (by omega))
  have kd_10 := kd_9.keep (o10.same_in (by omega) (by omega))
  have kg_10 := mg_10
  go_wp2_with fail
  refine (heldIntSS_in _ x 1 _ _ _ _ _ kg_10 (by omega) (by omega) (by omega) hr).mono ?_
  rintro e w11 ⟨rfl, hb11⟩
  have n11 := hb11.size
  have B11 := B10.trans (hb11.mono (by omega))
  have ka_11 := ka_10.keep (belowSame hb11 (by omega))
  have kw_11 := kw_10.keep (belowSame hb11 (by omega))
  have kc_11 := kc_10.keep (belowSame hb11 (by omega))
  have kg_11 := kg_10.keep (belowSame hb11 (by omega))
  have kd_11 := kd_10.keep (belowSame hb11 (by omega))
  go_wp2_with fail
  refine (toThreadS_any _ _ _ (HA.out.later B11) hn).mono ?_
  rintro e w12 ⟨ve, rfl, ke_12, hb12⟩
  have n12 := hb12.size
  have B12 := B11.trans (hb12.mono (by omega))
  have ka_12 := ka_11.keep (belowSame hb12 (by omega))
  have kw_12 := kw_11.keep (belowSame hb12 (by omega))
  have kc_12 := kc_11.keep (belowSame hb12 (by omega))
  have kg_12 := kg_11.keep (belowSame hb12 (by omega))
  have kd_12 := kd_11.keep (belowSame hb12 (by omega))
  go_wp2_with fail
  refine (HI.out _ _ _ _ ke_12 (by omega)).mono ?_
  rintro e w13 ⟨vh, rfl, kh_13, hb13⟩
  have n13 := hb13.size
  have B13 := B12.trans (hb13.mono (by omega))
  have ka_13 := ka_12.keep (belowSame hb13 (by omega))
  have kw_13 := kw_12.keep (belowSame hb13 (by omega))
  have kc_13 := kc_12.keep (belowSame hb13 (by omega))
  have kg_13 := kg_12.keep (belowSame hb13 (by omega))
  have kd_13 := kd_12.keep (belowSame hb13 (by omega))
  have ke_13 := ke_12.keep (belowSame hb13 (by omega))
  go_wp2_with fail
  refine (eqIntSS_in _ _ x _ _ _ _ _ _ _ kh_13 kw_13).mono ?_
  rintro e w14 ⟨rfl, hb14⟩
  have n14 := hb14.size
  have B14 := B13.trans (hb14.mono (by omega))
  have ka_14 := ka_13.keep (belowSame hb14 (by omega))
  have kw_14 := kw_13.keep (belowSame hb14 (by omega))
  have kc_14 := kc_13.keep (belowSame hb14 (by omega))
  have kg_14 := kg_13.keep (belowSame hb14 (by omega))
  have kd_14 := kd_13.keep (belowSame hb14 (by omega))
  have ke_14 := ke_13.keep (belowSame hb14 (by omega))
  have kh_14 := kh_13.keep (belowSame hb14 (by omega))
  go_wp2_with fail
  refine (heldIntSS_in _ x 1 _ _ _ _ _ kg_14 (by omega) (by omega) (by omega) hr).mono ?_
  rintro e w15 ⟨rfl, hb15⟩
  have n15 := hb15.size
  have B15 := B14.trans (hb15.mono (by omega))
  have ka_15 := ka_14.keep (belowSame hb15 (by omega))
  have kw_15 := kw_14.keep (belowSame hb15 (by omega))
  have kc_15 := kc_14.keep (belowSame hb15 (by omega))
  have kg_15 := kg_14.keep (belowSame hb15 (by omega))
  have kd_15 := kd_14.keep (belowSame hb15 (by omega))
  have ke_15 := ke_14.keep (belowSame hb15 (by omega))
  have kh_15 := kh_14.keep (belowSame hb15 (by omega))
  go_wp2_with fail
  go_ret
  exact ⟨rfl, B15⟩

set_option maxHeartbeats 400000 in
theorem long_EdgeCorners (v : Value) (xs : List (Int × Int)) (w : World) (hA : ArgP w v xs) (hn : ¬ xs.length ≤ 1048576) :
    Calls Try.prog 10 #[v] w fun e w' => e = .returned (.bool true) ∧ Below w.heap.size w w' := by
  obtain ⟨a0, cap, a, rfl, _, hm, _⟩ := hA
  go_enter Try.func10, Try.ntmps10
  go_wp2_with fail
  refine (szThreadS_no _ _ _ _ (by omega) hm).mono ?_
  rintro e w0 ⟨rfl, rfl⟩
  go_wp2_with fail
  go_ret
  exact ⟨rfl, by go_grown⟩

theorem walk_EdgeCorners (v : Value) (xs : List (Int × Int)) (w : World) (hA : ArgP w v xs) :
    Calls Try.prog 10 #[v] w fun e w' => e = .returned (.bool true) ∧ Below w.heap.size w w' := by
  by_cases hn : xs.length ≤ 1048576
  · by_cases hg : goodT xs
    · have hl := edgeT_len hg
      exact core_EdgeCorners v xs _ _ w hA hn (by omega) (by omega) (fun W u B T h hT => sEdgeCorners_yes u xs B T W h hT hg) (fun W u B T h hT => iEdgeCorners_yes u xs B T W h hT hg)
    · exact core_EdgeCorners v xs [] false w hA hn (by simp [cellsOf]) (by simp) (fun W u B T h hT => sEdgeCorners_no u xs B T W h hT hg) (fun W u B T h hT => iEdgeCorners_no u xs B T W h hT hg)
  · exact long_EdgeCorners v xs w hA hn

end Go.Proofs.Ytpcebcgmbngabab
