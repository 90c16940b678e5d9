/- NextRegions: both sides, the law. -/
import Derived.Test.YtpliaenpencocabRV
namespace Go.Proofs.Ytpliaenpencocab
open Go.RowKit
set_option linter.unusedVariables false

set_option maxHeartbeats 400000 in
theorem told_next (n : Nat) (a0 : Option Addr) (cap : Nat) (xs : List (Int × Int)) (B T : Nat) (w : World) (h : PairsIn 67 w B T (.slice a0 xs.length cap) xs) (hT : T ≤ w.heap.size) (hg : goodC n xs) (hpl : allP xs xs.length = []) : Calls Try.prog 43 #[.int .i64 n, .slice a0 xs.length cap, .func (.func 44) #[] #[], .func (.func 45) #[] #[]] w (Gives (RowsIn 46 3) w (allN (regL n xs) (regL n xs).length) true) := by
  have HS := Lib.hid (plane_yes (p := n) hpl)
  go_enter Try.func43, Try.ntmps43
  go_wp2_with (first | (go_at_call 44; (refine (isPlaneD_yes n _ _ xs B T _ (h.keep (belowSame (by go_grown) hT)) (Nat.le_trans hT (by first | (simp; done) | (simp; omega))) hg).mono ?_); rw [HS.out]; rintro e w1 ⟨rfl, hb1⟩; (have c0 : w1.cell? ⟨w.heap.size, 0, none⟩ = some (.int .i64 n) := cellB hb1 (by go_simp)); (have c1 : w1.cell? ⟨w.heap.size, 1, none⟩ = some (.slice a0 xs.length cap) := cellB hb1 (by go_simp)); (have hB1 : Below w.heap.size w w1 := Below.trans (by go_grown) (hb1.mono (by first | omega | (simp; done) | (simp; omega)))); have hz1 := hB1.size) | (go_at_call 45; (with_reducible refine (neighbours_any n _ _ xs B T _ (h.keep (belowSame hB1 hT)) (by omega) hg hpl).mono ?_); rintro e w2 ⟨v, rfl, hI, hb2⟩))
  go_ret2
  exact ⟨_, rfl, rowsIn_low hI hz1, hB1.trans (hb2.mono hz1)⟩

set_option maxHeartbeats 400000 in
theorem iNextR_yes (n : Nat) (a0 : Option Addr) (cap : Nat) (xs : List (Int × Int)) (B T : Nat) (w : World) (h : PairsIn 67 w B T (.slice a0 xs.length cap) xs) (hT : T ≤ w.heap.size) (hg : goodC n xs) (hpl : allP xs xs.length = []) : Calls Try.prog 16 #[.int .i64 n, .slice a0 xs.length cap] w (Gives (RowsIn 46 3) w (allN (regL n xs) (regL n xs).length) true) := by
  go_enter Try.func16, Try.ntmps16
  go_wp2_with (first | (go_at_call 43; (with_reducible refine (told_next n _ _ xs B T _ h hT hg hpl).mono ?_); rintro e w1 ⟨v, rfl, hI, hb1⟩))
  go_ret2
  exact ⟨_, rfl, hI, hb1⟩

set_option maxHeartbeats 400000 in
theorem iNextR_not (p : Int) (a0 : Option Addr) (cap : Nat) (xs : List (Int × Int)) (B T : Nat) (w : World) (h : PairsIn 67 w B T (.slice a0 xs.length cap) xs) (hT : T ≤ w.heap.size) (hg : goodC p xs) (hpl : ¬ allP xs xs.length = []) : Calls Try.prog 16 #[.int .i64 p, .slice a0 xs.length cap] w (Gives (RowsIn 46 3) w [] false) := by
  go_enter Try.func16, Try.ntmps16
  go_wp2_with (first | (go_at_call 43; (with_reducible refine (told_ISS_not p _ _ xs B T _ h hT _ hg hpl).mono ?_); rintro e w1 ⟨v, rfl, hI, hb1⟩))
  go_ret2
  exact ⟨_, rfl, hI, hb1⟩

set_option maxHeartbeats 400000 in
theorem iNextR_bad (p : Int) (a0 : Option Addr) (cap : Nat) (xs : List (Int × Int)) (B T : Nat) (w : World) (h : PairsIn 67 w B T (.slice a0 xs.length cap) xs) (hT : T ≤ w.heap.size) (hg : ¬ goodC p xs) : Calls Try.prog 16 #[.int .i64 p, .slice a0 xs.length cap] w (Gives (RowsIn 46 3) w [] false) := by
  go_enter Try.func16, Try.ntmps16
  go_wp2_with (first | (go_at_call 43; (with_reducible refine (told_ISS_bad p _ _ xs B T _ h hT _ hg).mono ?_); rintro e w1 ⟨v, rfl, hI, hb1⟩))
  go_ret2
  exact ⟨_, rfl, hI, hb1⟩

set_option maxHeartbeats 400000 in
theorem sNextR_yes (n : Nat) (a0 : Option Addr) (cap : Nat) (xs : List (Int × Int)) (B T : Nat) (w : World) (h : PairsIn 67 w B T (.slice a0 xs.length cap) xs) (hT : T ≤ w.heap.size) (hg : goodC n xs) (hpl : allP xs xs.length = []) : Calls Try.prog 14 #[.int .i64 n, .slice a0 xs.length cap] w (Gives (RowsIn 46 3) w (allN (regL n xs) (regL n xs).length) true) := by
  have HS := Lib.hid (plane_yes (p := n) hpl)
  go_enter Try.func14, Try.ntmps14
  go_wp2_with (first | (go_at_call 40; (refine (planeM_yes n _ _ xs B T _ h hT hg).mono ?_); rw [HS.out]; rintro e w1 ⟨rfl, hb1⟩; have hz1 := hb1.size) | (go_at_call 41; (with_reducible refine (reNext_any n _ xs B T _ (h.keep (belowSame hb1 hT)) (by omega) hg hpl).mono ?_); rintro e w2 ⟨v, rfl, hI, hb2⟩))
  go_ret2
  exact ⟨_, rfl, rowsIn_low hI hz1, hb1.trans (hb2.mono hz1)⟩

set_option maxHeartbeats 400000 in
theorem sNextR_not (p : Int) (a0 : Option Addr) (cap : Nat) (xs : List (Int × Int)) (B T : Nat) (w : World) (h : PairsIn 67 w B T (.slice a0 xs.length cap) xs) (hT : T ≤ w.heap.size) (hg : goodC p xs) (hpl : ¬ allP xs xs.length = []) : Calls Try.prog 14 #[.int .i64 p, .slice a0 xs.length cap] w (Gives (RowsIn 46 3) w [] false) := by
  have HS := Lib.hid (plane_no (p := p) hpl)
  go_enter Try.func14, Try.ntmps14
  go_wp2_with (first | (go_at_call 40; (refine (planeM_yes p _ _ xs B T _ h hT hg).mono ?_); rw [HS.out]; rintro e w1 ⟨rfl, hb1⟩))
  go_ret2
  exact ⟨_, rfl, RowsIn.nil _ _ _ _ _, hb1⟩

set_option maxHeartbeats 400000 in
theorem sNextR_bad (p : Int) (a0 : Option Addr) (cap : Nat) (xs : List (Int × Int)) (B T : Nat) (w : World) (h : PairsIn 67 w B T (.slice a0 xs.length cap) xs) (hT : T ≤ w.heap.size) (hg : ¬ goodC p xs) : Calls Try.prog 14 #[.int .i64 p, .slice a0 xs.length cap] w (Gives (RowsIn 46 3) w [] false) := by
  go_enter Try.func14, Try.ntmps14
  go_wp2_with (first | (go_at_call 40; (with_reducible refine (planeM_no p _ _ xs B T _ h hT hg).mono ?_); rintro e w1 ⟨rfl, hb1⟩))
  go_ret2
  exact ⟨_, rfl, RowsIn.nil _ _ _ _ _, hb1⟩

set_option maxHeartbeats 1000000 in
theorem core_NextRegions (p : Int) (v : Value) (xs : List (Int × Int)) (x : List (List Int)) (b : Bool) (w : World) (hA : ArgP w v xs) (hn : xs.length ≤ 1048576) (hx : cellsOf x ≤ 1000000) (hr : x.length ≤ 1000000)
    (hs : ∀ (W : World) (u : Value) (B T : Nat), PairsIn 67 W B T u xs → T ≤ W.heap.size → Calls Try.prog 14 #[.int .i64 p, u] W (Gives (RowsIn 46 3) W x b))
    (hi : ∀ (W : World) (u : Value) (B T : Nat), PairsIn 67 W B T u xs → T ≤ W.heap.size → Calls Try.prog 16 #[.int .i64 p, u] W (Gives (RowsIn 46 3) W x b)) :
    Calls Try.prog 4 #[.int .i64 p, v] w fun e w' => e = .returned (.bool true) ∧ Below w.heap.size w w' := by
  have hA1 := hA
  obtain ⟨a0, cap, a, rfl, _⟩ := hA1
  have HS := Lib.hid hs
  have HI := Lib.hid hi
  have HA := Lib.hid hA
  clear hs hi hA
  go_enter Try.func4, Try.ntmps4
  go_wp2_with fail
  refine (szChordS_yes _ _ _ _ hn).mono ?_
  rintro e w0 ⟨rfl, rfl⟩
  go_wp2_with fail
  refine (toChordS_any _ _ _ (HA.out.later (by go_grown)) hn).mono ?_
  rintro e w1 ⟨va, rfl, ka_1, hb1⟩
  have n1 : w.heap.size ≤ w1.heap.size := by have := hb1.size; (try simp at this); omega
  have B1 : Below w.heap.size w w1 := Below.trans (by go_grown) (hb1.mono (by first | (simp; done) | (simp; omega)))
  go_wp2_with fail
  refine (HS.out _ _ _ _ ka_1 (by omega)).mono ?_
  rintro e w2 ⟨vw, rfl, kw_2, hb2⟩
  have n2 := hb2.size
  have B2 := B1.trans (hb2.mono (by omega))
  have ka_2 := ka_1.keep (belowSame hb2 (by omega))
  go_wp2_with fail
  refine (toChordS_any _ _ _ (HA.out.later B2) hn).mono ?_
  rintro e w3 ⟨vc, rfl, kc_3, hb3⟩
  have n3 := hb3.size
  have B3 := B2.trans (hb3.mono (by omega))
  have ka_3 := ka_2.keep (belowSame hb3 (by omega))
  have kw_3 := kw_2.keep (belowSame hb3 (by omega))
  go_wp2_with fail
  refine (HI.out _ _ _ _ kc_3 (by omega)).mono ?_
  rintro e w4 ⟨vg, rfl, kg_4, hb4⟩
  have n4 := hb4.size
  have B4 := B3.trans (hb4.mono (by omega))
  have ka_4 := ka_3.keep (belowSame hb4 (by omega))
  have kw_4 := kw_3.keep (belowSame hb4 (by omega))
  have kc_4 := kc_3.keep (belowSame hb4 (by omega))
  go_wp2_with fail
  refine (eqIntSS_in _ _ x _ _ _ _ _ _ _ kg_4 kw_4).mono ?_
  rintro e w5 ⟨rfl, hb5⟩
  have n5 := hb5.size
  have B5 := B4.trans (hb5.mono (by omega))
  have ka_5 := ka_4.keep (belowSame hb5 (by omega))
  have kw_5 := kw_4.keep (belowSame hb5 (by omega))
  have kc_5 := kc_4.keep (belowSame hb5 (by omega))
  have kg_5 := kg_4.keep (belowSame hb5 (by omega))
  go_wp2_with fail
  refine (toChordS_any _ _ _ (HA.out.later B5) hn).mono ?_
  rintro e w6 ⟨vd, rfl, kd_6, hb6⟩
  have n6 := hb6.size
  have B6 := B5.trans (hb6.mono (by omega))
  have ka_6 := ka_5.keep (belowSame hb6 (by omega))
  have kw_6 := kw_5.keep (belowSame hb6 (by omega))
  have kc_6 := kc_5.keep (belowSame hb6 (by omega))
  have kg_6 := kg_5.keep (belowSame hb6 (by omega))
  go_wp2_with fail
  refine (eqChordS_in _ _ _ _ _ _ _ _ _ kc_6 kd_6).mono ?_
  rintro e w7 ⟨rfl, hb7⟩
  have n7 := hb7.size
  have B7 := B6.trans (hb7.mono (by omega))
  have ka_7 := ka_6.keep (belowSame hb7 (by omega))
  have kw_7 := kw_6.keep (belowSame hb7 (by omega))
  have kc_7 := kc_6.keep (belowSame hb7 (by omega))
  have kg_7 := kg_6.keep (belowSame hb7 (by omega))
  have kd_7 := kd_6.keep (belowSame hb7 (by omega))
  go_wp2_with fail
  refine (markChordS_in _ _ 1 _ _ _ _ kc_7 (by omega) (by omega) (by omega)).mono ?_
  rintro e w8 ⟨rfl, mc_8, o8⟩
  have n8 := o8.size
  have B8 := B7.trans (o8.below (C := w.heap.size) (by omega) (by omega))
  have ka_8 := ka_7.keep (o8.same_in (by omega) (by omega))
  have kw_8 := kw_7.keep (o8.same_in (by omega) (by omega))
  have kg_8 := kg_7.keep (o8.same_in (by omega) (by omega))
  have kd_8 := kd_7.keep (o8.same_in (by omega) (by omega))
  have kc_8 := mc_8
  go_wp2_with fail
  refine (eqIntSS_in _ _ x _ _ _ _ _ _ _ kg_8 kw_8).mono ?_
  rintro e w9 ⟨rfl, hb9⟩
  have n9 := hb9.size
  have B9 := B8.trans (hb9.mono (by omega))
  have ka_9 := ka_8.keep (belowSame hb9 (by omega))
  have kw_9 := kw_8.keep (belowSame hb9 (by omega))
  have kc_9 := kc_8.keep (belowSame hb9 (by omega))
  have kg_9 := kg_8.keep (belowSame hb9 (by omega))
  have kd_9 := kd_8.keep (belowSame hb9 (by omega))
  go_wp2_with fail
  refine (markIntSS_in _ x 1 _ _ _ _ _ kg_9 (by decide) (by omega) (by omega) (by omega) hr).mono ?_
  rintro e w10 ⟨rfl, mg_10, o10⟩
  have n10 := o10.size
  have B10 := B9.trans (o10.below (C := w.heap.size) (by omega) (by omega))
  have ka_10 := ka_9.keep (o10.same_in (by omega) (by omega))
  have kw_10 := kw_9.keep (o10.same_in (by omega) (by omega))
  have kc_10 := kc_9.keep (o10.same_in (by omega) (by omega))
  have kd_10 := kd_9.keep (o10.same_in (by omega) (by omega))
  have kg_10 := mg_10
  go_wp2_with fail
  refine (heldIntSS_in _ x 1 _ _ _ _ _ kg_10 (by omega) (by omega) (by omega) hr).mono ?_
  rintro e w11 ⟨rfl, hb11⟩
  have n11 := hb11.size
  have B11 := B10.trans (hb11.mono (by omega))
  have ka_11 := ka_10.keep (belowSame hb11 (by omega))
  have kw_11 := kw_10.keep (belowSame hb11 (by omega))
  have kc_11 := kc_10.keep (belowSame hb11 (by omega))
  have kg_11 := kg_10.keep (belowSame hb11 (by omega))
  have kd_11 := kd_10.keep (belowSame hb11 (by omega))
  go_wp2_with fail
  refine (toChordS_any _ _ _ (HA.out.later B11) hn).mono ?_
  rintro e w12 ⟨ve, rfl, ke_12, hb12⟩
  have n12 := hb12.size
  have B12 := B11.trans (hb12.mono (by omega))
  have ka_12 := ka_11.keep (belowSame hb12 (by omega))
  have kw_12 := kw_11.keep (belowSame hb12 (by omega))
  have kc_12 := kc_11.keep (belowSame hb12 (by omega))
  have kg_12 := kg_11.keep (belowSame hb12 (by omega))
  have kd_12 := kd_11.keep (belowSame hb12 (by omega))
  go_wp2_with fail
  refine (HI.out _ _ _ _ ke_12 (by omega)).mono ?_
  rintro e w13 ⟨vh, rfl, kh_13, hb13⟩
  have n13 := hb13.size
  have B13 := B12.trans (hb13.mono (by omega))
  have ka_13 := ka_12.keep (belowSame hb13 (by omega))
  have kw_13 := kw_12.keep (belowSame hb13 (by omega))
  have kc_13 := kc_12.keep (belowSame hb13 (by omega))
  have kg_13 := kg_12.keep (belowSame hb13 (by omega))
  have kd_13 := kd_12.keep (belowSame hb13 (by omega))
  have ke_13 := ke_12.keep (belowSame hb13 (by omega))
  go_wp2_with fail
  refine (eqIntSS_in _ _ x _ _ _ _ _ _ _ kh_13 kw_13).mono ?_
  rintro e w14 ⟨rfl, hb14⟩
  have n14 := hb14.size
  have B14 := B13.trans (hb14.mono (by omega))
  have ka_14 := ka_13.keep (belowSame hb14 (by omega))
  have kw_14 := kw_13.keep (belowSame hb14 (by omega))
  have kc_14 := kc_13.keep (belowSame hb14 (by omega))
  have kg_14 := kg_13.keep (belowSame hb14 (by omega))
  have kd_14 := kd_13.keep (belowSame hb14 (by omega))
  have ke_14 := ke_13.keep (belowSame hb14 (by omega))
  have kh_14 := kh_13.keep (belowSame hb14 (by omega))
  go_wp2_with fail
  refine (heldIntSS_in _ x 1 _ _ _ _ _ kg_14 (by omega) (by omega) (by omega) hr).mono ?_
  rintro e w15 ⟨rfl, hb15⟩
  have n15 := hb15.size
  have B15 := B14.trans (hb15.mono (by omega))
  have ka_15 := ka_14.keep (belowSame hb15 (by omega))
  have kw_15 := kw_14.keep (belowSame hb15 (by omega))
  have kc_15 := kc_14.keep (belowSame hb15 (by omega))
  have kg_15 := kg_14.keep (belowSame hb15 (by omega))
  have kd_15 := kd_14.keep (belowSame hb15 (by omega))
  have ke_15 := ke_14.keep (belowSame hb15 (by omega))
  have kh_15 := kh_14.keep (belowSame hb15 (by omega))
  go_wp2_with fail
  go_ret
  exact ⟨rfl, B15⟩

set_option maxHeartbeats 400000 in
theorem long_NextRegions (p : Int) (v : Value) (xs : List (Int × Int)) (w : World) (hA : ArgP w v xs) (hn : ¬ xs.length ≤ 1048576) :
    Calls Try.prog 4 #[.int .i64 p, v] w fun e w' => e = .returned (.bool true) ∧ Below w.heap.size w w' := by
  obtain ⟨a0, cap, a, rfl, _, hm, _⟩ := hA
  go_enter Try.func4, Try.ntmps4
  go_wp2_with fail
  refine (szChordS_no _ _ _ _ (by omega) hm).mono ?_
  rintro e w0 ⟨rfl, rfl⟩
  go_wp2_with fail
  go_ret
  exact ⟨rfl, by go_grown⟩

theorem sum_two (L : List (List Int)) (h : ∀ R ∈ L, R.length = 2) : cellsOf L = 2 * L.length := by
  unfold cellsOf
  induction L with
  | nil => rfl
  | cons a t ih =>
    have h1 := h a (by simp)
    have h2 := ih fun R hR => h R (by simp [hR])
    simp only [List.map_cons, List.sum_cons, List.length_cons]
    omega

theorem nextL_small {n : Nat} {xs : List (Int × Int)} (hg : goodC n xs) (hpl : allP xs xs.length = []) : cellsOf (allN (regL n xs) (regL n xs).length) ≤ 80 ∧ (allN (regL n xs) (regL n xs).length).length ≤ 40 := by
  have h1 := nextL_length hg hpl
  have h2 := hg.2.1
  rw [sum_two _ fun R hR => nextL_two hR]
  omega

theorem walk_NextRegions (p : Int) (v : Value) (xs : List (Int × Int)) (w : World) (_ : (Lit.int .i64 p).wf = true) (hA : ArgP w v xs) :
    Calls Try.prog 4 #[.int .i64 p, v] w fun e w' => e = .returned (.bool true) ∧ Below w.heap.size w w' := by
  by_cases hn : xs.length ≤ 1048576
  · by_cases hg : goodC p xs
    · by_cases hpl : allP xs xs.length = []
      · obtain ⟨n, rfl⟩ := Int.eq_ofNat_of_zero_le (show 0 ≤ p by have := hg.1; omega)
        obtain ⟨hs1, hs2⟩ := nextL_small hg hpl
        exact core_NextRegions _ v xs (allN (regL n xs) (regL n xs).length) true w hA hn (by omega) (by omega) (fun W u B T h hT => by obtain ⟨a0, cap, g0, rfl, _⟩ := h.pairs.view; exact sNextR_yes n a0 cap xs B T W h hT hg hpl) (fun W u B T h hT => by obtain ⟨a0, cap, g0, rfl, _⟩ := h.pairs.view; exact iNextR_yes n a0 cap xs B T W h hT hg hpl)
      · exact core_NextRegions p v xs [] false w hA hn (by simp [cellsOf]) (by simp) (fun W u B T h hT => by obtain ⟨a0, cap, g0, rfl, _⟩ := h.pairs.view; exact sNextR_not p a0 cap xs B T W h hT hg hpl) (fun W u B T h hT => by obtain ⟨a0, cap, g0, rfl, _⟩ := h.pairs.view; exact iNextR_not p a0 cap xs B T W h hT hg hpl)
    · exact core_NextRegions p v xs [] false w hA hn (by simp [cellsOf]) (by simp) (fun W u B T h hT => by obtain ⟨a0, cap, g0, rfl, _⟩ := h.pairs.view; exact sNextR_bad p a0 cap xs B T W h hT hg) (fun W u B T h hT => by obtain ⟨a0, cap, g0, rfl, _⟩ := h.pairs.view; exact iNextR_bad p a0 cap xs B T W h hT hg)
  · exact long_NextRegions p v xs w hA hn
end Go.Proofs.Ytpliaenpencocab
