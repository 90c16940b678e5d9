/- RegionSizes: both sides, the law. -/
import Derived.Test.YtmfbbbnenngehabRJ
namespace Go.Proofs.Ytmfbbbnenngehab
open Go.RowKit
set_option linter.unusedVariables false

/-- How long each list is. -/
def lenV (L : List (List Int)) (i : Nat) : Int := (((L.getD i []).length : Nat) : Int)
def lensL (L : List (List Int)) : List Int := (List.range L.length).map (lenV L)

theorem lensL_length (L : List (List Int)) : (lensL L).length = L.length := by simp [lensL]

theorem rowAt_len {w : World} {B T : Nat} {v : Value} {vs : List Value} {L : List (List Int)} (h : RowsAt 34 3 w B T v vs L) (k : Nat) (hk : k < L.length) : ∃ a c, vs.getD k (.slice none 0 0) = .slice a (L.getD k []).length c :=
  (h.rows k hk).1.openedR

set_option maxHeartbeats 1000000 in
theorem sizes_any (n : Nat) (a0 : Option Addr) (cap : Nat) (xs : List (Int × Int)) (B T : Nat) (w : World) (h : PairsIn 47 w B T (.slice a0 xs.length cap) xs) (hT : T ≤ w.heap.size) (hg : goodC n xs) (hpl : allP xs xs.length = []) :
    Calls Try.prog 40 #[.agg #[.int .i64 n, .slice a0 xs.length cap]] w fun e w' => ∃ v, e = .returned v ∧ IntsIn 3 w' w.heap.size w'.heap.size v (lensL (regL n xs)) ∧ Below w.heap.size w w' := by
  have hsm := (regL_small hg hpl).2
  have hHR := Lib.hid (fun W hW1 hW2 => regions_gives n a0 cap xs B T W hW1 hW2 hg hpl)
  obtain ⟨L, hL⟩ : ∃ L, regL n xs = L := ⟨_, rfl⟩
  rw [hL] at hsm hHR ⊢
  have hmk := make_ints (P := Try.prog) Try.underlying34 info_int L.length (by omega)
  clear hL
  go_enter Try.func40, Try.ntmps40
  go_wp2_with (first | (go_at_call 37; (refine (hHR.out _ (h.keep (belowSame (by go_grown) hT)) (Nat.le_trans hT (by first | (simp; done) | (simp; omega)))).mono ?_); rintro e w1 ⟨v, rfl, hI, hb1⟩; (have hB1 : Below w.heap.size w w1 := Below.trans (by go_grown) (hb1.mono (by first | omega | (simp; done) | (simp; omega)))); have hz1 := hB1.size; (obtain ⟨vs, hR⟩ := hI; obtain ⟨ar, cr, gr, rfl, har, _, hcr, _⟩ := hR.view; have HR := Lib.hid hR; have HAR := Lib.hid har; have HCR := Lib.hid hcr; clear hR har hcr)))
  go_loopw [14] (fun i wr => ∃ j : Nat, j ≤ L.length ∧ i = .int .i64 j ∧ Ints wr w1.heap.size 3 (.slice (some ⟨w1.heap.size, 0, none⟩) L.length L.length) (fillTo (lenV L) L.length j) ∧ Below w1.heap.size w1 wr) (fun i _ => L.length - (intOf i).toNat)
  case atStart => exact ⟨0, by omega, rfl, by rw [fillTo_zero]; exact Ints.made w1 w1.heap.size _ L.length (Nat.le_refl _) (by omega), by go_grown⟩
  case round =>
    obtain ⟨j, hj, rfl, hI, hB⟩ := hrel
    by_cases hlt : j < L.length
    · obtain rfl := HAR.out (by omega)
      obtain ⟨aj, cj, hrow⟩ := rowAt_len HR.out j hlt
      have e0 := cellB hB (HCR.out j hlt)
      rw [hrow] at e0
      have HF := Lib.hid (fillTo_set (lenV L) L.length j hlt)
      have hl := fillTo_length (lenV L) L.length j hj
      have HS := Lib.hid (hI.stored j (lenV L j))
      have d0 := hI.cellAt j (by rw [hl]; omega)
      have f0 := hI.frozenAt j
      have HB3 := Lib.hid (hI.below hB hB.size HS.out.2)
      have hlv : ((((L.getD j []).length : Nat)) : Int) = lenV L j := rfl
      obtain ⟨z, hz⟩ : ∃ z, (L.getD j []).length = z := ⟨_, rfl⟩
      rw [hz] at e0 hlv
      rw [← hlv] at HS HF HB3
      generalize (fillTo (lenV L) L.length j).getD j 0 = old at d0
      have HZ := Lib.hid hlv
      clear hI hB hl hrow hlv hz
      go_wp2
      go_roundw
      case rel => exact ⟨j + 1, by omega, by go_num, by rw [← HF.out]; exact HS.out.1, HB3.out⟩
      case measure => simp [intOf]; omega
    · obtain rfl : j = L.length := by omega
      rw [fillTo_all] at hI
      have HI := Lib.hid hI
      clear hI
      go_wp2
      go_ret
      exact ⟨_, rfl, ⟨HI.out.mono hz1, fun q hq => (HI.out.own q hq).2⟩, hB1.trans (hB.mono hz1)⟩

set_option maxHeartbeats 400000 in
theorem told_sizes (n : Nat) (a0 : Option Addr) (cap : Nat) (xs : List (Int × Int)) (B T : Nat) (w : World) (h : PairsIn 47 w B T (.slice a0 xs.length cap) xs) (hT : T ≤ w.heap.size) (hg : goodC n xs) (hpl : allP xs xs.length = []) : Calls Try.prog 39 #[.int .i64 n, .slice a0 xs.length cap, .func (.func 36) #[] #[], .func (.func 40) #[] #[]] w (Gives (IntsIn 3) w (lensL (regL n xs)) true) := by
  have HS := Lib.hid (plane_yes (p := n) hpl)
  go_enter Try.func39, Try.ntmps39
  go_wp2_with (first | (go_at_call 36; (refine (isPlaneD_yes n _ _ xs B T _ (h.keep (belowSame (by go_grown) hT)) (Nat.le_trans hT (by first | (simp; done) | (simp; omega))) hg).mono ?_); rw [HS.out]; rintro e w1 ⟨rfl, hb1⟩; (have c0 : w1.cell? ⟨w.heap.size, 0, none⟩ = some (.int .i64 n) := cellB hb1 (by go_simp)); (have c1 : w1.cell? ⟨w.heap.size, 1, none⟩ = some (.slice a0 xs.length cap) := cellB hb1 (by go_simp)); (have hB1 : Below w.heap.size w w1 := Below.trans (by go_grown) (hb1.mono (by first | omega | (simp; done) | (simp; omega)))); have hz1 := hB1.size) | (go_at_call 40; (with_reducible refine (sizes_any n _ _ xs B T _ (h.keep (belowSame hB1 hT)) (by omega) hg hpl).mono ?_); rintro e w2 ⟨v, rfl, hI, hb2⟩))
  go_ret2
  exact ⟨_, rfl, hI.widen hz1 (Nat.le_refl _), hB1.trans (hb2.mono hz1)⟩

set_option maxHeartbeats 400000 in
theorem iSizes_yes (n : Nat) (a0 : Option Addr) (cap : Nat) (xs : List (Int × Int)) (B T : Nat) (w : World) (h : PairsIn 47 w B T (.slice a0 xs.length cap) xs) (hT : T ≤ w.heap.size) (hg : goodC n xs) (hpl : allP xs xs.length = []) : Calls Try.prog 19 #[.int .i64 n, .slice a0 xs.length cap] w (Gives (IntsIn 3) w (lensL (regL n xs)) true) := by
  go_enter Try.func19, Try.ntmps19
  go_wp2_with (first | (go_at_call 39; (with_reducible refine (told_sizes n _ _ xs B T _ h hT hg hpl).mono ?_); rintro e w1 ⟨v, rfl, hI, hb1⟩))
  go_ret2
  exact ⟨_, rfl, hI, hb1⟩

set_option maxHeartbeats 400000 in
theorem iSizes_not (p : Int) (a0 : Option Addr) (cap : Nat) (xs : List (Int × Int)) (B T : Nat) (w : World) (h : PairsIn 47 w B T (.slice a0 xs.length cap) xs) (hT : T ≤ w.heap.size) (hg : goodC p xs) (hpl : ¬ allP xs xs.length = []) : Calls Try.prog 19 #[.int .i64 p, .slice a0 xs.length cap] w (Gives (IntsIn 3) w [] false) := by
  go_enter Try.func19, Try.ntmps19
  go_wp2_with (first | (go_at_call 39; (with_reducible refine (told_IS_not p _ _ xs B T _ h hT _ hg hpl).mono ?_); rintro e w1 ⟨v, rfl, hI, hb1⟩))
  go_ret2
  exact ⟨_, rfl, hI, hb1⟩

set_option maxHeartbeats 400000 in
theorem iSizes_bad (p : Int) (a0 : Option Addr) (cap : Nat) (xs : List (Int × Int)) (B T : Nat) (w : World) (h : PairsIn 47 w B T (.slice a0 xs.length cap) xs) (hT : T ≤ w.heap.size) (hg : ¬ goodC p xs) : Calls Try.prog 19 #[.int .i64 p, .slice a0 xs.length cap] w (Gives (IntsIn 3) w [] false) := by
  go_enter Try.func19, Try.ntmps19
  go_wp2_with (first | (go_at_call 39; (with_reducible refine (told_IS_bad p _ _ xs B T _ h hT _ hg).mono ?_); rintro e w1 ⟨v, rfl, hI, hb1⟩))
  go_ret2
  exact ⟨_, rfl, hI, hb1⟩

set_option maxHeartbeats 400000 in
theorem sSizes_not (p : Int) (a0 : Option Addr) (cap : Nat) (xs : List (Int × Int)) (B T : Nat) (w : World) (h : PairsIn 47 w B T (.slice a0 xs.length cap) xs) (hT : T ≤ w.heap.size) (hg : goodC p xs) (hpl : ¬ allP xs xs.length = []) : Calls Try.prog 18 #[.int .i64 p, .slice a0 xs.length cap] w (Gives (IntsIn 3) w [] false) := by
  have HS := Lib.hid (plane_no (p := p) hpl)
  go_enter Try.func18, Try.ntmps18
  go_wp2_with (first | (go_at_call 32; (refine (planeM_yes p _ _ xs B T _ h hT hg).mono ?_); rw [HS.out]; rintro e w1 ⟨rfl, hb1⟩))
  go_ret2
  exact ⟨_, rfl, IntsIn.nil _ _ _ _, hb1⟩

set_option maxHeartbeats 400000 in
theorem sSizes_bad (p : Int) (a0 : Option Addr) (cap : Nat) (xs : List (Int × Int)) (B T : Nat) (w : World) (h : PairsIn 47 w B T (.slice a0 xs.length cap) xs) (hT : T ≤ w.heap.size) (hg : ¬ goodC p xs) : Calls Try.prog 18 #[.int .i64 p, .slice a0 xs.length cap] w (Gives (IntsIn 3) w [] false) := by
  go_enter Try.func18, Try.ntmps18
  go_wp2_with (first | (go_at_call 32; (with_reducible refine (planeM_no p _ _ xs B T _ h hT hg).mono ?_); rintro e w1 ⟨rfl, hb1⟩))
  go_ret2
  exact ⟨_, rfl, IntsIn.nil _ _ _ _, hb1⟩

set_option maxHeartbeats 1000000 in
theorem sSizes_yes (n : Nat) (a0 : Option Addr) (cap : Nat) (xs : List (Int × Int)) (B T : Nat) (w : World) (h : PairsIn 47 w B T (.slice a0 xs.length cap) xs) (hT : T ≤ w.heap.size) (hg : goodC n xs) (hpl : allP xs xs.length = []) : Calls Try.prog 18 #[.int .i64 n, .slice a0 xs.length cap] w (Gives (IntsIn 3) w (lensL (regL n xs)) true) := by
  have HS := Lib.hid (plane_yes (p := n) hpl)
  have hsm := (regL_small hg hpl).2
  have HHR := Lib.hid (fun u B T W hW1 hW2 => reList_gives n u xs B T W hW1 hW2 hg hpl)
  obtain ⟨L, hL⟩ : ∃ L, regL n xs = L := ⟨_, rfl⟩
  rw [hL] at hsm HHR ⊢
  clear hL
  go_enter Try.func18, Try.ntmps18
  go_wp2_with (first | (go_at_call 32; (refine (planeM_yes n _ _ xs B T _ h hT hg).mono ?_); rw [HS.out]; rintro e w1 ⟨rfl, hb1⟩; have hz1 := hb1.size) | (go_at_call 33; (with_reducible refine (HHR.out _ B T _ (h.keep (belowSame hb1 hT)) (by omega)).mono ?_); rintro e w2 ⟨v, rfl, hI, hb2⟩; have hB2 := hb1.trans (hb2.mono hz1); have hz2 := hB2.size; (obtain ⟨vs, hR⟩ := hI; obtain ⟨ar, cr, gr, rfl, har, _, hcr, _⟩ := hR.view; have HR := Lib.hid hR; have HAR := Lib.hid har; have HCR := Lib.hid hcr; clear hR har hcr)))
  go_loopw [6, 17] (fun u i wr => ∃ j : Nat, j ≤ L.length ∧ i = .int .i64 j ∧ Ints wr w2.heap.size 3 u ((List.range j).map (lenV L)) ∧ Below w2.heap.size w2 wr) (fun _ i _ => L.length - (intOf i).toNat)
  case atStart => exact ⟨0, by omega, rfl, World.ownsRow_nil _ _ _ _, Below.refl _ _⟩
  case round =>
    obtain ⟨j, hj, rfl, hI, hB⟩ := hrel
    have HI := Lib.hid hI
    have hz := hB.size
    clear hI
    by_cases hlt : j < L.length
    · obtain rfl := HAR.out (by omega)
      obtain ⟨aj, cj, hrow⟩ := rowAt_len HR.out j hlt
      have e0 := cellB hB (HCR.out j hlt)
      rw [hrow] at e0
      have HF := Lib.hid (map_range_succ (lenV L) j)
      have hlv : ((((L.getD j []).length : Nat)) : Int) = lenV L j := rfl
      obtain ⟨z, hz9⟩ : ∃ z, (L.getD j []).length = z := ⟨_, rfl⟩
      rw [hz9] at e0 hlv
      rw [← hlv] at HF
      clear hrow hlv hz9
      go_wp2_with (at_builtin; refine wpList_append_int rfl _ _ 34 rfl (w2.heap.size) 3 Try.underlying34 info_int _ _ rfl HI.out (((z : Nat) : Int)) rfl (by simp; omega) (by omega) ?_; intro v' w' hI' hg';  have hB' := HI.out.below hB hz hg'; rw [HF.out] at hI'; have HI' := Lib.hid hI'; clear hI' hB)
      go_roundw
      case rel => exact ⟨j + 1, by omega, by go_num, HI'.out, hB'⟩
      case measure => simp [intOf]; omega
    · obtain rfl : j = L.length := by omega
      go_wp2
      go_ret2
      exact ⟨_, rfl, ⟨HI.out.mono hz2, fun q hq => (HI.out.own q hq).2⟩, hB2.trans (hB.mono hz2)⟩

set_option maxHeartbeats 1000000 in
theorem core_RegionSizes (p : Int) (v : Value) (xs : List (Int × Int)) (x : List Int) (b : Bool) (w : World) (hA : ArgP w v xs) (hn : xs.length ≤ 1048576) (hx : x.length ≤ 1000000)
    (hs : ∀ (W : World) (u : Value) (B T : Nat), PairsIn 47 W B T u xs → T ≤ W.heap.size → Calls Try.prog 18 #[.int .i64 p, u] W (Gives (IntsIn 3) W x b))
    (hi : ∀ (W : World) (u : Value) (B T : Nat), PairsIn 47 W B T u xs → T ≤ W.heap.size → Calls Try.prog 19 #[.int .i64 p, u] W (Gives (IntsIn 3) W x b)) :
    Calls Try.prog 4 #[.int .i64 p, v] w fun e w' => e = .returned (.bool true) ∧ Below w.heap.size w w' := by
  have hA1 := hA
  obtain ⟨a0, cap, a, rfl, _⟩ := hA1
  have HS := Lib.hid hs
  have HI := Lib.hid hi
  have HA := Lib.hid hA
  clear hs hi hA
  go_enter Try.func4, Try.ntmps4
  go_wp2_with fail
  refine (szChordS_yes _ _ _ _ hn).mono ?_
  rintro e w0 ⟨rfl, rfl⟩
  go_wp2_with fail
  refine (toChordS_any _ _ _ (HA.out.later (by go_grown)) hn).mono ?_
  rintro e w1 ⟨va, rfl, ka_1, hb1⟩
  have n1 : w.heap.size ≤ w1.heap.size := by have := hb1.size; (try simp at this); omega
  have B1 : Below w.heap.size w w1 := Below.trans (by go_grown) (hb1.mono (by first | (simp; done) | (simp; omega)))
  go_wp2_with fail
  refine (HS.out _ _ _ _ ka_1 (by omega)).mono ?_
  rintro e w2 ⟨vw, rfl, kw_2, hb2⟩
  have n2 := hb2.size
  have B2 := B1.trans (hb2.mono (by omega))
  have ka_2 := ka_1.keep (belowSame hb2 (by omega))
  go_wp2_with fail
  refine (toChordS_any _ _ _ (HA.out.later B2) hn).mono ?_
  rintro e w3 ⟨vc, rfl, kc_3, hb3⟩
  have n3 := hb3.size
  have B3 := B2.trans (hb3.mono (by omega))
  have ka_3 := ka_2.keep (belowSame hb3 (by omega))
  have kw_3 := kw_2.keep (belowSame hb3 (by omega))
  go_wp2_with fail
  refine (HI.out _ _ _ _ kc_3 (by omega)).mono ?_
  rintro e w4 ⟨vg, rfl, kg_4, hb4⟩
  have n4 := hb4.size
  have B4 := B3.trans (hb4.mono (by omega))
  have ka_4 := ka_3.keep (belowSame hb4 (by omega))
  have kw_4 := kw_3.keep (belowSame hb4 (by omega))
  have kc_4 := kc_3.keep (belowSame hb4 (by omega))
  go_wp2_with fail
  refine (eqIntS_in _ _ x _ _ _ _ _ _ kg_4 kw_4).mono ?_
  rintro e w5 ⟨rfl, hb5⟩
  have n5 := hb5.size
  have B5 := B4.trans (hb5.mono (by omega))
  have ka_5 := ka_4.keep (belowSame hb5 (by omega))
  have kw_5 := kw_4.keep (belowSame hb5 (by omega))
  have kc_5 := kc_4.keep (belowSame hb5 (by omega))
  have kg_5 := kg_4.keep (belowSame hb5 (by omega))
  go_wp2_with fail
  refine (toChordS_any _ _ _ (HA.out.later B5) hn).mono ?_
  rintro e w6 ⟨vd, rfl, kd_6, hb6⟩
  have n6 := hb6.size
  have B6 := B5.trans (hb6.mono (by omega))
  have ka_6 := ka_5.keep (belowSame hb6 (by omega))
  have kw_6 := kw_5.keep (belowSame hb6 (by omega))
  have kc_6 := kc_5.keep (belowSame hb6 (by omega))
  have kg_6 := kg_5.keep (belowSame hb6 (by omega))
  go_wp2_with fail
  refine (eqChordS_in _ _ _ _ _ _ _ _ _ kc_6 kd_6).mono ?_
  rintro e w7 ⟨rfl, hb7⟩
  have n7 := hb7.size
  have B7 := B6.trans (hb7.mono (by omega))
  have ka_7 := ka_6.keep (belowSame hb7 (by omega))
  have kw_7 := kw_6.keep (belowSame hb7 (by omega))
  have kc_7 := kc_6.keep (belowSame hb7 (by omega))
  have kg_7 := kg_6.keep (belowSame hb7 (by omega))
  have kd_7 := kd_6.keep (belowSame hb7 (by omega))
  go_wp2_with fail
  refine (markChordS_in _ _ 1 _ _ _ _ kc_7 (by omega) (by omega) (by omega)).mono ?_
  rintro e w8 ⟨rfl, mc_8, o8⟩
  have n8 := o8.size
  have B8 := B7.trans (o8.below (C := w.heap.size) (by omega) (by omega))
  have ka_8 := ka_7.keep (o8.same_in (by omega) (by omega))
  have kw_8 := kw_7.keep (o8.same_in (by omega) (by omega))
  have kg_8 := kg_7.keep (o8.same_in (by omega) (by omega))
  have kd_8 := kd_7.keep (o8.same_in (by omega) (by omega))
  have kc_8 := mc_8
  go_wp2_with fail
  refine (eqIntS_in _ _ x _ _ _ _ _ _ kg_8 kw_8).mono ?_
  rintro e w9 ⟨rfl, hb9⟩
  have n9 := hb9.size
  have B9 := B8.trans (hb9.mono (by omega))
  have ka_9 := ka_8.keep (belowSame hb9 (by omega))
  have kw_9 := kw_8.keep (belowSame hb9 (by omega))
  have kc_9 := kc_8.keep (belowSame hb9 (by omega))
  have kg_9 := kg_8.keep (belowSame hb9 (by omega))
  have kd_9 := kd_8.keep (belowSame hb9 (by omega))
  go_wp2_with fail
  refine (markIntS_in _ x 1 _ _ _ _ kg_9 (by omega) (by omega) (by omega)).mono ?_
  rintro e w10 ⟨rfl, mg_10, o10⟩
  have n10 := o10.size
  have B10 := B9.trans (o10.below (C := w.heap.size) (by omega) (by omega))
  have ka_10 := ka_9.keep (o10.same_in (by omega) (by omega))
  have kw_10 := kw_9.keep (o10.same_in (by omega) (by omega))
  have kc_10 := kc_9.keep (o10.same_in (by omega) (by omega))
  have kd_10 := kd_9.keep (o10.same_in (by omega) (by omega))
  have kg_10 := mg_10
  go_wp2_with fail
  refine (heldIntS_in _ 1 x.length _ _ _ _ kg_10 (by omega) (by omega) (by omega)).mono ?_
  rintro e w11 ⟨rfl, hb11⟩
  have n11 := hb11.size
  have B11 := B10.trans (hb11.mono (by omega))
  have ka_11 := ka_10.keep (belowSame hb11 (by omega))
  have kw_11 := kw_10.keep (belowSame hb11 (by omega))
  have kc_11 := kc_10.keep (belowSame hb11 (by omega))
  have kg_11 := kg_10.keep (belowSame hb11 (by omega))
  have kd_11 := kd_10.keep (belowSame hb11 (by omega))
  go_wp2_with fail
  refine (toChordS_any _ _ _ (HA.out.later B11) hn).mono ?_
  rintro e w12 ⟨ve, rfl, ke_12, hb12⟩
  have n12 := hb12.size
  have B12 := B11.trans (hb12.mono (by omega))
  have ka_12 := ka_11.keep (belowSame hb12 (by omega))
  have kw_12 := kw_11.keep (belowSame hb12 (by omega))
  have kc_12 := kc_11.keep (belowSame hb12 (by omega))
  have kg_12 := kg_11.keep (belowSame hb12 (by omega))
  have kd_12 := kd_11.keep (belowSame hb12 (by omega))
  go_wp2_with fail
  refine (HI.out _ _ _ _ ke_12 (by omega)).mono ?_
  rintro e w13 ⟨vh, rfl, kh_13, hb13⟩
  have n13 := hb13.size
  have B13 := B12.trans (hb13.mono (by omega))
  have ka_13 := ka_12.keep (belowSame hb13 (by omega))
  have kw_13 := kw_12.keep (belowSame hb13 (by omega))
  have kc_13 := kc_12.keep (belowSame hb13 (by omega))
  have kg_13 := kg_12.keep (belowSame hb13 (by omega))
  have kd_13 := kd_12.keep (belowSame hb13 (by omega))
  have ke_13 := ke_12.keep (belowSame hb13 (by omega))
  go_wp2_with fail
  refine (eqIntS_in _ _ x _ _ _ _ _ _ kh_13 kw_13).mono ?_
  rintro e w14 ⟨rfl, hb14⟩
  have n14 := hb14.size
  have B14 := B13.trans (hb14.mono (by omega))
  have ka_14 := ka_13.keep (belowSame hb14 (by omega))
  have kw_14 := kw_13.keep (belowSame hb14 (by omega))
  have kc_14 := kc_13.keep (belowSame hb14 (by omega))
  have kg_14 := kg_13.keep (belowSame hb14 (by omega))
  have kd_14 := kd_13.keep (belowSame hb14 (by omega))
  have ke_14 := ke_13.keep (belowSame hb14 (by omega))
  have kh_14 := kh_13.keep (belowSame hb14 (by omega))
  go_wp2_with fail
  refine (heldIntS_in _ 1 x.length _ _ _ _ kg_14 (by omega) (by omega) (by omega)).mono ?_
  rintro e w15 ⟨rfl, hb15⟩
  have n15 := hb15.size
  have B15 := B14.trans (hb15.mono (by omega))
  have ka_15 := ka_14.keep (belowSame hb15 (by omega))
  have kw_15 := kw_14.keep (belowSame hb15 (by omega))
  have kc_15 := kc_14.keep (belowSame hb15 (by omega))
  have kg_15 := kg_14.keep (belowSame hb15 (by omega))
  have kd_15 := kd_14.keep (belowSame hb15 (by omega))
  have ke_15 := ke_14.keep (belowSame hb15 (by omega))
  have kh_15 := kh_14.keep (belowSame hb15 (by omega))
  go_wp2_with fail
  go_ret
  exact ⟨rfl, B15⟩

set_option maxHeartbeats 400000 in
theorem long_RegionSizes (p : Int) (v : Value) (xs : List (Int × Int)) (w : World) (hA : ArgP w v xs) (hn : ¬ xs.length ≤ 1048576) :
    Calls Try.prog 4 #[.int .i64 p, v] w fun e w' => e = .returned (.bool true) ∧ Below w.heap.size w w' := by
  obtain ⟨a0, cap, a, rfl, _, hm, _⟩ := hA
  go_enter Try.func4, Try.ntmps4
  go_wp2_with fail
  refine (szChordS_no _ _ _ _ (by omega) hm).mono ?_
  rintro e w0 ⟨rfl, rfl⟩
  go_wp2_with fail
  go_ret
  exact ⟨rfl, by go_grown⟩

theorem walk_RegionSizes (p : Int) (v : Value) (xs : List (Int × Int)) (w : World) (_ : (Lit.int .i64 p).wf = true) (hA : ArgP w v xs) :
    Calls Try.prog 4 #[.int .i64 p, v] w fun e w' => e = .returned (.bool true) ∧ Below w.heap.size w w' := by
  by_cases hn : xs.length ≤ 1048576
  · by_cases hg : goodC p xs
    · by_cases hpl : allP xs xs.length = []
      · obtain ⟨n, rfl⟩ := Int.eq_ofNat_of_zero_le (show 0 ≤ p by have := hg.1; omega)
        have hs2 := (regL_small hg hpl).2
        exact core_RegionSizes _ v xs (lensL (regL n xs)) true w hA hn (by rw [lensL_length]; omega) (fun W u B T h hT => by obtain ⟨a0, cap, g0, rfl, _⟩ := h.pairs.view; exact sSizes_yes n a0 cap xs B T W h hT hg hpl) (fun W u B T h hT => by obtain ⟨a0, cap, g0, rfl, _⟩ := h.pairs.view; exact iSizes_yes n a0 cap xs B T W h hT hg hpl)
      · exact core_RegionSizes p v xs [] false w hA hn (by simp) (fun W u B T h hT => by obtain ⟨a0, cap, g0, rfl, _⟩ := h.pairs.view; exact sSizes_not p a0 cap xs B T W h hT hg hpl) (fun W u B T h hT => by obtain ⟨a0, cap, g0, rfl, _⟩ := h.pairs.view; exact iSizes_not p a0 cap xs B T W h hT hg hpl)
    · exact core_RegionSizes p v xs [] false w hA hn (by simp) (fun W u B T h hT => by obtain ⟨a0, cap, g0, rfl, _⟩ := h.pairs.view; exact sSizes_bad p a0 cap xs B T W h hT hg) (fun W u B T h hT => by obtain ⟨a0, cap, g0, rfl, _⟩ := h.pairs.view; exact iSizes_bad p a0 cap xs B T W h hT hg)
  · exact long_RegionSizes p v xs w hA hn
end Go.Proofs.Ytmfbbbnenngehab
