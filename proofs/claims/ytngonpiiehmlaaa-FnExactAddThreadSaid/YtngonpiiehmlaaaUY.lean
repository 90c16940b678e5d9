/- A chord is added: the law. -/
import Derived.Test.YtngonpiiehmlaaaUX
namespace Go.Proofs.Ytngonpiiehmlaaa
open Go.RowKit
set_option linter.unusedVariables false
set_option maxHeartbeats 1000000 in
theorem core_AddThread (v : Value) (xs : List (Int × Int)) (c d : Int) (x : List (Int × Int)) (b : Bool) (w : World) (hA : ArgP w v xs) (hn : xs.length ≤ 1048576) (hx : x.length ≤ 1000000)
    (hs : ∀ (W : World) (u : Value) (B T : Nat), PairsIn 37 W B T u xs → T ≤ W.heap.size → Calls Try.prog 44 #[u, .agg #[.int .i64 c, .int .i64 d]] W (Gives (PairsIn 37) W x b))
    (hi : ∀ (W : World) (u : Value) (B T : Nat), PairsIn 37 W B T u xs → T ≤ W.heap.size → Calls Try.prog 45 #[u, .agg #[.int .i64 c, .int .i64 d]] W (Gives (PairsIn 37) W x b)) :
    Calls Try.prog 13 #[v, .agg #[.int .i64 c, .int .i64 d]] w fun e w' => e = .returned (.bool true) ∧ Below w.heap.size w w' := by
  have hA1 := hA
  obtain ⟨a0, cap, a, rfl, _⟩ := hA1
  have HS := Lib.hid hs
  have HI := Lib.hid hi
  have HA := Lib.hid hA
  clear hs hi hA
  have p0_0' : (w.alloc (.cells #[.int .i64 c, .int .i64 d] 34)).cell? ⟨w.heap.size, 0, none⟩ = some (.int .i64 c) := by go_simp
  have p0_0 := Lib.hid p0_0'
  clear p0_0'
  have q0_0' : (w.alloc (.cells #[.int .i64 c, .int .i64 d] 34)).cell? ⟨w.heap.size, 1, none⟩ = some (.int .i64 d) := by go_simp
  have q0_0 := Lib.hid q0_0'
  clear q0_0'
  go_enter Try.func13, Try.ntmps13
  go_wp2_with fail
  refine (szThreadS_yes _ _ _ _ hn).mono ?_
  rintro e w0 ⟨rfl, rfl⟩
  go_wp2
  go_region_held3 (fun w' => w'.cell? ⟨w.heap.size, 0, none⟩ = some (.int .i64 c) ∧ w'.cell? ⟨w.heap.size, 1, none⟩ = some (.int .i64 d)) (go_keep)
    (first | (go_at_call 17; refine (toThreadS_any _ _ _ (HA.out.later (by go_grown)) hn).mono ?_; rintro e w1 ⟨va, rfl, ka_1, hbx1⟩; (have n1 : w.heap.size + 1 ≤ w1.heap.size := by have := hbx1.size; simp at this; omega); (have B1 : Below w.heap.size w w1 := Below.trans (by go_grown) (hbx1.mono (by first | (simp; done) | (simp; omega)))); (have p0_1 := cellB hbx1 (b := w.heap.size) (o := 0) (x := .int .i64 c) (by go_simp)); (have q0_1 := cellB hbx1 (b := w.heap.size) (o := 1) (x := .int .i64 d) (by go_simp))) | (go_at_call 25; refine (toThread_any _ _ _).mono ?_; rintro e w2 ⟨rfl, hbx2⟩; (have hb2 : Below w1.heap.size w1 w2 := Below.trans (by go_grown) (hbx2.mono (by first | omega | (simp; done) | (simp; omega)))); have n2 := hb2.size; have B2 := B1.trans (hb2.mono (by omega)); have p0_2 := cellB hb2 p0_1; have q0_2 := cellB hb2 q0_1; have ka_2 := ka_1.keep (belowSame hb2 (by omega))) | (go_at_call 44; refine (HS.out _ _ _ _ (ka_2.keep (belowSame (by go_grown) (by omega))) (by first | omega | (simp; omega))).mono ?_; rintro e w3 ⟨vw, rfl, kw_3, hbx3⟩; (have hb3 : Below w2.heap.size w2 w3 := Below.trans (by go_grown) (hbx3.mono (by first | omega | (simp; done) | (simp; omega)))); have n3 := hb3.size; have B3 := B2.trans (hb3.mono (by omega)); have p0_3 := cellB hb3 p0_2; have q0_3 := cellB hb3 q0_2; have ka_3 := ka_2.keep (belowSame hb3 (by omega))))
  go_wp2_with fail
  refine (toThreadS_any _ _ _ (HA.out.later B3) hn).mono ?_
  rintro e w4 ⟨vc, rfl, kc_4, hb4⟩
  have n4 := hb4.size
  have B4 := B3.trans (hb4.mono (by omega))
  have p0_4 := cellB hb4 p0_3
  have q0_4 := cellB hb4 q0_3
  clear p0_3 q0_3
  have ka_4 := ka_3.keep (belowSame hb4 (by omega))
  have kw_4 := kw_3.keep (belowSame hb4 (by omega))
  go_wp2_with fail
  refine (toThread_any _ _ _).mono ?_
  rintro e w5 ⟨rfl, hb5⟩
  have n5 := hb5.size
  have B5 := B4.trans (hb5.mono (by omega))
  have p0_5 := cellB hb5 p0_4
  have q0_5 := cellB hb5 q0_4
  clear p0_4 q0_4
  have ka_5 := ka_4.keep (belowSame hb5 (by omega))
  have kw_5 := kw_4.keep (belowSame hb5 (by omega))
  have kc_5 := kc_4.keep (belowSame hb5 (by omega))
  go_wp2_with fail
  refine (HI.out _ _ _ _ kc_5 (by omega)).mono ?_
  rintro e w6 ⟨vg, rfl, kg_6, hb6⟩
  have n6 := hb6.size
  have B6 := B5.trans (hb6.mono (by omega))
  have p0_6 := cellB hb6 p0_5
  have q0_6 := cellB hb6 q0_5
  clear p0_5 q0_5
  have ka_6 := ka_5.keep (belowSame hb6 (by omega))
  have kw_6 := kw_5.keep (belowSame hb6 (by omega))
  have kc_6 := kc_5.keep (belowSame hb6 (by omega))
  go_wp2_with fail
  refine (eqThreadS_in _ _ _ _ _ _ _ _ _ kg_6 kw_6).mono ?_
  rintro e w7 ⟨rfl, hb7⟩
  have n7 := hb7.size
  have B7 := B6.trans (hb7.mono (by omega))
  have p0_7 := cellB hb7 p0_6
  have q0_7 := cellB hb7 q0_6
  clear p0_6 q0_6
  have ka_7 := ka_6.keep (belowSame hb7 (by omega))
  have kw_7 := kw_6.keep (belowSame hb7 (by omega))
  have kc_7 := kc_6.keep (belowSame hb7 (by omega))
  have kg_7 := kg_6.keep (belowSame hb7 (by omega))
  go_wp2_with fail
  refine (toThreadS_any _ _ _ (HA.out.later B7) hn).mono ?_
  rintro e w8 ⟨vd, rfl, kd_8, hb8⟩
  have n8 := hb8.size
  have B8 := B7.trans (hb8.mono (by omega))
  have p0_8 := cellB hb8 p0_7
  have q0_8 := cellB hb8 q0_7
  clear p0_7 q0_7
  have ka_8 := ka_7.keep (belowSame hb8 (by omega))
  have kw_8 := kw_7.keep (belowSame hb8 (by omega))
  have kc_8 := kc_7.keep (belowSame hb8 (by omega))
  have kg_8 := kg_7.keep (belowSame hb8 (by omega))
  go_wp2_with fail
  refine (eqThreadS_in _ _ _ _ _ _ _ _ _ kc_8 kd_8).mono ?_
  rintro e w9 ⟨rfl, hb9⟩
  have n9 := hb9.size
  have B9 := B8.trans (hb9.mono (by omega))
  have p0_9 := cellB hb9 p0_8
  have q0_9 := cellB hb9 q0_8
  clear p0_8 q0_8
  have ka_9 := ka_8.keep (belowSame hb9 (by omega))
  have kw_9 := kw_8.keep (belowSame hb9 (by omega))
  have kc_9 := kc_8.keep (belowSame hb9 (by omega))
  have kg_9 := kg_8.keep (belowSame hb9 (by omega))
  have kd_9 := kd_8.keep (belowSame hb9 (by omega))
  go_wp2_with fail
  refine (markThreadS_in _ _ 1 _ _ _ _ kc_9 (by omega) (by omega) (by omega)).mono ?_
  rintro e w10 ⟨rfl, mc_10, o10⟩
  have n10 := o10.size
  have B10 := B9.trans (o10.below (C := w.heap.size) (by omega) (by omega))
  have p0_10 := o10.cell (.inl (by omega)) p0_9
  have q0_10 := o10.cell (.inl (by omega)) q0_9
  clear p0_9 q0_9
  have ka_10 := ka_9.keep (o10.same_in (by omega) (by omega))
  have kw_10 := kw_9.keep (o10.same_in (by omega) (by omega))
  have kg_10 := kg_9.keep (o10.same_in (by omega) (by omega))
  have kd_10 := kd_9.keep (o10.same_in (by omega) (by omega))
  have kc_10 := mc_10
  go_wp2_with fail
  refine (eqThreadS_in _ _ _ _ _ _ _ _ _ kg_10 kw_10).mono ?_
  rintro e w11 ⟨rfl, hb11⟩
  have n11 := hb11.size
  have B11 := B10.trans (hb11.mono (by omega))
  have p0_11 := cellB hb11 p0_10
  have q0_11 := cellB hb11 q0_10
  clear p0_10 q0_10
  have ka_11 := ka_10.keep (belowSame hb11 (by omega))
  have kw_11 := kw_10.keep (belowSame hb11 (by omega))
  have kc_11 := kc_10.keep (belowSame hb11 (by omega))
  have kg_11 := kg_10.keep (belowSame hb11 (by omega))
  have kd_11 := kd_10.keep (belowSame hb11 (by omega))
  go_wp2_with fail
  refine (markThreadS_in _ _ 1 _ _ _ _ kg_11 (by omega) (by omega) (by omega)).mono ?_
  rintro e w12 ⟨rfl, mg_12, o12⟩
  have n12 := o12.size
  have B12 := B11.trans (o12.below (C := w.heap.size) (by omega) (by omega))
  have p0_12 := o12.cell (.inl (by omega)) p0_11
  have q0_12 := o12.cell (.inl (by omega)) q0_11
  clear p0_11 q0_11
  have ka_12 := ka_11.keep (o12.same_in (by omega) (by omega))
  have kw_12 := kw_11.keep (o12.same_in (by omega) (by omega))
  have kc_12 := kc_11.keep (o12.same_in (by omega) (by omega))
  have kd_12 := kd_11.keep (o12.same_in (by omega) (by omega))
  have kg_12 := mg_12
  go_wp2_with fail
  refine (heldThreadS_in _ 1 _ _ _ _ _ kg_12 (by omega) (by omega) (by omega)).mono ?_
  rintro e w13 ⟨rfl, hb13⟩
  have n13 := hb13.size
  have B13 := B12.trans (hb13.mono (by omega))
  have p0_13 := cellB hb13 p0_12
  have q0_13 := cellB hb13 q0_12
  clear p0_12 q0_12
  have ka_13 := ka_12.keep (belowSame hb13 (by omega))
  have kw_13 := kw_12.keep (belowSame hb13 (by omega))
  have kc_13 := kc_12.keep (belowSame hb13 (by omega))
  have kg_13 := kg_12.keep (belowSame hb13 (by omega))
  have kd_13 := kd_12.keep (belowSame hb13 (by omega))
  go_wp2
  go_region_held3 (fun w' => w'.cell? ⟨w.heap.size, 0, none⟩ = some (.int .i64 c) ∧ w'.cell? ⟨w.heap.size, 1, none⟩ = some (.int .i64 d)) (go_keep)
    (first | (go_at_call 17; refine (toThreadS_any _ _ _ (HA.out.later (by go_grown)) hn).mono ?_; rintro e w14 ⟨ve, rfl, ke_14, hbx14⟩; (have hb14 : Below w13.heap.size w13 w14 := Below.trans (by go_grown) (hbx14.mono (by first | omega | (simp; done) | (simp; omega)))); have n14 := hb14.size; have B14 := B13.trans (hb14.mono (by omega)); have p0_14 := cellB hb14 p0_13; have q0_14 := cellB hb14 q0_13; have ka_14 := ka_13.keep (belowSame hb14 (by omega)); have kw_14 := kw_13.keep (belowSame hb14 (by omega)); have kc_14 := kc_13.keep (belowSame hb14 (by omega)); have kg_14 := kg_13.keep (belowSame hb14 (by omega)); have kd_14 := kd_13.keep (belowSame hb14 (by omega))) | (go_at_call 25; refine (toThread_any _ _ _).mono ?_; rintro e w15 ⟨rfl, hbx15⟩; (have hb15 : Below w14.heap.size w14 w15 := Below.trans (by go_grown) (hbx15.mono (by first | omega | (simp; done) | (simp; omega)))); have n15 := hb15.size; have B15 := B14.trans (hb15.mono (by omega)); have p0_15 := cellB hb15 p0_14; have q0_15 := cellB hb15 q0_14; have ka_15 := ka_14.keep (belowSame hb15 (by omega)); have kw_15 := kw_14.keep (belowSame hb15 (by omega)); have kc_15 := kc_14.keep (belowSame hb15 (by omega)); have kg_15 := kg_14.keep (belowSame hb15 (by omega)); have kd_15 := kd_14.keep (belowSame hb15 (by omega)); have ke_15 := ke_14.keep (belowSame hb15 (by omega))) | (go_at_call 45; refine (HI.out _ _ _ _ (ke_15.keep (belowSame (by go_grown) (by omega))) (by first | omega | (simp; omega))).mono ?_; rintro e w16 ⟨vh, rfl, kh_16, hbx16⟩; (have hb16 : Below w15.heap.size w15 w16 := Below.trans (by go_grown) (hbx16.mono (by first | omega | (simp; done) | (simp; omega)))); have n16 := hb16.size; have B16 := B15.trans (hb16.mono (by omega)); have p0_16 := cellB hb16 p0_15; have q0_16 := cellB hb16 q0_15; have ka_16 := ka_15.keep (belowSame hb16 (by omega)); have kw_16 := kw_15.keep (belowSame hb16 (by omega)); have kc_16 := kc_15.keep (belowSame hb16 (by omega)); have kg_16 := kg_15.keep (belowSame hb16 (by omega)); have kd_16 := kd_15.keep (belowSame hb16 (by omega)); have ke_16 := ke_15.keep (belowSame hb16 (by omega))))
  go_wp2_with fail
  refine (eqThreadS_in _ _ _ _ _ _ _ _ _ kh_16 kw_16).mono ?_
  rintro e w17 ⟨rfl, hb17⟩
  have n17 := hb17.size
  have B17 := B16.trans (hb17.mono (by omega))
  have p0_17 := cellB hb17 p0_16
  have q0_17 := cellB hb17 q0_16
  clear p0_16 q0_16
  have ka_17 := ka_16.keep (belowSame hb17 (by omega))
  have kw_17 := kw_16.keep (belowSame hb17 (by omega))
  have kc_17 := kc_16.keep (belowSame hb17 (by omega))
  have kg_17 := kg_16.keep (belowSame hb17 (by omega))
  have kd_17 := kd_16.keep (belowSame hb17 (by omega))
  have ke_17 := ke_16.keep (belowSame hb17 (by omega))
  have kh_17 := kh_16.keep (belowSame hb17 (by omega))
  go_wp2_with fail
  refine (heldThreadS_in _ 1 _ _ _ _ _ kg_17 (by omega) (by omega) (by omega)).mono ?_
  rintro e w18 ⟨rfl, hb18⟩
  have n18 := hb18.size
  have B18 := B17.trans (hb18.mono (by omega))
  have p0_18 := cellB hb18 p0_17
  have q0_18 := cellB hb18 q0_17
  clear p0_17 q0_17
  have ka_18 := ka_17.keep (belowSame hb18 (by omega))
  have kw_18 := kw_17.keep (belowSame hb18 (by omega))
  have kc_18 := kc_17.keep (belowSame hb18 (by omega))
  have kg_18 := kg_17.keep (belowSame hb18 (by omega))
  have kd_18 := kd_17.keep (belowSame hb18 (by omega))
  have ke_18 := ke_17.keep (belowSame hb18 (by omega))
  have kh_18 := kh_17.keep (belowSame hb18 (by omega))
  go_wp2_with fail
  go_ret
  exact ⟨rfl, B18⟩

set_option maxHeartbeats 400000 in
theorem long_AddThread (v : Value) (xs : List (Int × Int)) (c d : Int) (w : World) (hA : ArgP w v xs) (hn : ¬ xs.length ≤ 1048576) :
    Calls Try.prog 13 #[v, .agg #[.int .i64 c, .int .i64 d]] w fun e w' => e = .returned (.bool true) ∧ Below w.heap.size w w' := by
  obtain ⟨a0, cap, a, rfl, _, hm, _⟩ := hA
  go_enter Try.func13, Try.ntmps13
  go_wp2_with fail
  refine (szThreadS_no _ _ _ _ (by omega) hm).mono ?_
  rintro e w0 ⟨rfl, rfl⟩
  go_wp2_with fail
  go_ret
  exact ⟨rfl, by go_grown⟩

set_option maxHeartbeats 600000 in
theorem sAddThread_no (u : Value) (xs : List (Int × Int)) (c d : Int) (B T : Nat) (w : World) (h : PairsIn 37 w B T u xs) (hT : T ≤ w.heap.size) (hg : ¬ (goodT xs ∧ isT c d ∧ xs.length < 30)) :
    Calls Try.prog 44 #[u, .agg #[.int .i64 c, .int .i64 d]] w (Gives (PairsIn 37) w [] false) := by
  have HH := Lib.hid h
  obtain ⟨a1, c1, g1, rfl, _, hm, _⟩ := h.pairs.view
  unfold maxLen at hm
  by_cases hgg : goodT xs
  · have HG := Lib.hid hgg
    have hl := hgg.1.2
    by_cases hc : isT c d
    · have hl30 : xs.length = 30 := by
        by_cases e : xs.length < 30
        · exact absurd ⟨hgg, hc, e⟩ hg
        · omega
      have hne : ((xs.length : Int) == 30) = true := by rw [hl30]; rfl
      have HC := Lib.hid hc
      clear h hg hgg hc hl30
      go_enter Try.func44, Try.ntmps44
      go_wp2_with (first | (go_at_call 48; (with_reducible refine (sgGood_yes _ xs B T _ (HH.out.keep (belowSame (by go_grown) hT)) HG.out).mono ?_); rintro e w1 ⟨rfl, hb1⟩; (have d0 := cellB hb1 (b := w.heap.size) (o := 0) (x := .int .i64 c) (by go_simp)); (have d1 := cellB hb1 (b := w.heap.size) (o := 1) (x := .int .i64 d) (by go_simp)); (have hB1 : Below w.heap.size w w1 := Below.trans (by go_grown) (hb1.mono (by simp))); have hz1 := hb1.size) | (go_at_call 53; (with_reducible refine (sgThread_yes c d _ HC.out).mono ?_); rintro e w2 ⟨rfl, hb2⟩; (have hB2 : Below w.heap.size w w2 := hB1.trans (hb2.mono (by simp at hz1; omega)))))
      go_ret2
      exact ⟨_, rfl, PairsIn.nil _ _ _ _, hB2⟩
    · have HC := Lib.hid hc
      clear h hg hgg hc
      go_enter Try.func44, Try.ntmps44
      go_wp2_with (first | (go_at_call 48; (with_reducible refine (sgGood_yes _ xs B T _ (HH.out.keep (belowSame (by go_grown) hT)) HG.out).mono ?_); rintro e w1 ⟨rfl, hb1⟩; (have d0 := cellB hb1 (b := w.heap.size) (o := 0) (x := .int .i64 c) (by go_simp)); (have d1 := cellB hb1 (b := w.heap.size) (o := 1) (x := .int .i64 d) (by go_simp)); (have hB1 : Below w.heap.size w w1 := Below.trans (by go_grown) (hb1.mono (by simp))); have hz1 := hb1.size) | (go_at_call 53; (with_reducible refine (sgThread_no c d _ HC.out).mono ?_); rintro e w2 ⟨rfl, hb2⟩; (have hB2 : Below w.heap.size w w2 := hB1.trans (hb2.mono (by simp at hz1; omega)))))
      go_ret2
      exact ⟨_, rfl, PairsIn.nil _ _ _ _, hB2⟩
  · have HG := Lib.hid hgg
    clear h hg hgg
    go_enter Try.func44, Try.ntmps44
    go_wp2_with (first | (go_at_call 48; (with_reducible refine (sgGood_no _ xs B T _ (HH.out.keep (belowSame (by go_grown) hT)) HG.out).mono ?_); rintro e w1 ⟨rfl, hb1⟩; (have d0 := cellB hb1 (b := w.heap.size) (o := 0) (x := .int .i64 c) (by go_simp)); (have d1 := cellB hb1 (b := w.heap.size) (o := 1) (x := .int .i64 d) (by go_simp)); (have hB1 : Below w.heap.size w w1 := Below.trans (by go_grown) (hb1.mono (by simp))); have hz1 := hb1.size))
    go_ret2
    exact ⟨_, rfl, PairsIn.nil _ _ _ _, hB1⟩

set_option maxHeartbeats 600000 in
theorem iAddThread_no (u : Value) (xs : List (Int × Int)) (c d : Int) (B T : Nat) (w : World) (h : PairsIn 37 w B T u xs) (hT : T ≤ w.heap.size) (hg : ¬ (goodT xs ∧ isT c d ∧ xs.length < 30)) :
    Calls Try.prog 45 #[u, .agg #[.int .i64 c, .int .i64 d]] w (Gives (PairsIn 37) w [] false) := by
  have HH := Lib.hid h
  obtain ⟨a1, c1, g1, rfl, _, hm, _⟩ := h.pairs.view
  unfold maxLen at hm
  by_cases hgg : goodT xs
  · have HG := Lib.hid hgg
    have hl := hgg.1.2
    by_cases hc : isT c d
    · have hl30 : xs.length = 30 := by
        by_cases e : xs.length < 30
        · exact absurd ⟨hgg, hc, e⟩ hg
        · omega
      have hne : ((xs.length : Int) == 30) = true := by rw [hl30]; rfl
      have HC := Lib.hid hc
      clear h hg hgg hc hl30
      go_enter Try.func45, Try.ntmps45
      go_wp2_with (first | (go_at_call 18; (with_reducible refine (AreThreads_yes _ xs B T _ (HH.out.keep (belowSame (by go_grown) hT)) HG.out).mono ?_); rintro e w1 ⟨rfl, hb1⟩; (have d0 := cellB hb1 (b := w.heap.size) (o := 0) (x := .int .i64 c) (by go_simp)); (have d1 := cellB hb1 (b := w.heap.size) (o := 1) (x := .int .i64 d) (by go_simp)); (have hB1 : Below w.heap.size w w1 := Below.trans (by go_grown) (hb1.mono (by simp))); have hz1 := hb1.size) | (go_at_call 49; (with_reducible refine (isThread_yes c d _ HC.out).mono ?_); rintro e w2 ⟨rfl, hb2⟩; (have hB2 : Below w.heap.size w w2 := hB1.trans (hb2.mono (by simp at hz1; omega)))))
      go_ret2
      exact ⟨_, rfl, PairsIn.nil _ _ _ _, hB2⟩
    · have HC := Lib.hid hc
      clear h hg hgg hc
      go_enter Try.func45, Try.ntmps45
      go_wp2_with (first | (go_at_call 18; (with_reducible refine (AreThreads_yes _ xs B T _ (HH.out.keep (belowSame (by go_grown) hT)) HG.out).mono ?_); rintro e w1 ⟨rfl, hb1⟩; (have d0 := cellB hb1 (b := w.heap.size) (o := 0) (x := .int .i64 c) (by go_simp)); (have d1 := cellB hb1 (b := w.heap.size) (o := 1) (x := .int .i64 d) (by go_simp)); (have hB1 : Below w.heap.size w w1 := Below.trans (by go_grown) (hb1.mono (by simp))); have hz1 := hb1.size) | (go_at_call 49; (with_reducible refine (isThread_no c d _ HC.out).mono ?_); rintro e w2 ⟨rfl, hb2⟩; (have hB2 : Below w.heap.size w w2 := hB1.trans (hb2.mono (by simp at hz1; omega)))))
      go_ret2
      exact ⟨_, rfl, PairsIn.nil _ _ _ _, hB2⟩
  · have HG := Lib.hid hgg
    clear h hg hgg
    go_enter Try.func45, Try.ntmps45
    go_wp2_with (first | (go_at_call 18; (with_reducible refine (AreThreads_no _ xs B T _ (HH.out.keep (belowSame (by go_grown) hT)) HG.out).mono ?_); rintro e w1 ⟨rfl, hb1⟩; (have d0 := cellB hb1 (b := w.heap.size) (o := 0) (x := .int .i64 c) (by go_simp)); (have d1 := cellB hb1 (b := w.heap.size) (o := 1) (x := .int .i64 d) (by go_simp)); (have hB1 : Below w.heap.size w w1 := Below.trans (by go_grown) (hb1.mono (by simp))); have hz1 := hb1.size))
    go_ret2
    exact ⟨_, rfl, PairsIn.nil _ _ _ _, hB1⟩

theorem iAddThread_new (u : Value) (xs : List (Int × Int)) (c d : Int) (B T : Nat) (w : World) (h : PairsIn 37 w B T u xs) (hT : T ≤ w.heap.size) (hg : goodT xs) (hc : isT c d) (hl : xs.length < 30) (ht : thereAt xs c d = false) :
    Calls Try.prog 45 #[u, .agg #[.int .i64 c, .int .i64 d]] w (Gives (PairsIn 37) w (putAt xs c d) true) := by
  rcases src_form h.1 with ⟨rfl, hx⟩ | ⟨g, cap, rfl, _, hlc, _⟩
  · rw [hx] at hg; exact absurd hg.1.1 (by simp)
  · exact iAddThread_some g cap xs c d B T w h hT hlc hg hc hl ht

theorem walk_AddThread (v : Value) (xs : List (Int × Int)) (c d : Int) (w : World) (hA : ArgP w v xs) (_ : (Lit.int .i64 c).wf = true) (_ : (Lit.int .i64 d).wf = true) :
    Calls Try.prog 13 #[v, .agg #[.int .i64 c, .int .i64 d]] w fun e w' => e = .returned (.bool true) ∧ Below w.heap.size w w' := by
  by_cases hn : xs.length ≤ 1048576
  · by_cases hg : goodT xs ∧ isT c d ∧ xs.length < 30
    · cases ht : thereAt xs c d with
      | false => exact core_AddThread v xs c d _ _ w hA hn (by rw [putAt_length]; omega) (fun W u B T h hT => sAddThread_new u xs c d B T W h hT hg.1 hg.2.1 hg.2.2 ht) (fun W u B T h hT => iAddThread_new u xs c d B T W h hT hg.1 hg.2.1 hg.2.2 ht)
      | true => exact core_AddThread v xs c d [] false w hA hn (by simp) (fun W u B T h hT => sAddThread_there u xs c d B T W h hT hg.1 hg.2.1 hg.2.2 ht) (fun W u B T h hT => iAddThread_there u xs c d B T W h hT hg.1 hg.2.1 hg.2.2 ht)
    · exact core_AddThread v xs c d [] false w hA hn (by simp) (fun W u B T h hT => sAddThread_no u xs c d B T W h hT hg) (fun W u B T h hT => iAddThread_no u xs c d B T W h hT hg)
  · exact long_AddThread v xs c d w hA hn

end Go.Proofs.Ytngonpiiehmlaaa
