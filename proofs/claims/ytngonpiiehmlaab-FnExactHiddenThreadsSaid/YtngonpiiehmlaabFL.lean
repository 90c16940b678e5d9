/- The highest thread at a place: highestAt, whole. -/
import Derived.Test.YtngonpiiehmlaabFK
import Derived.Test.YtngonpiiehmlaabUGs
namespace Go.Proofs.Ytngonpiiehmlaab
open Go.RowKit
set_option linter.unusedVariables false

set_option maxHeartbeats 2000000 in
theorem highestAt_none (u : Value) (xs : List (Int × Int)) (B T : Nat) (w : World) (h : PairsIn 55 w B T u xs) (hT : T ≤ w.heap.size) (x : Int) (hg : goodT xs) (hx : 0 ≤ x) (hno : ∀ j, j < xs.length → reachP xs x j = false) :
    Calls Try.prog 41 #[u, .int .i64 x] w fun e w' => e = .returned (.tuple #[.int .i64 0, .agg #[.int .i64 0, .int .i64 0], .bool false]) ∧ Below w.heap.size w w' := by
  have HB3 : Hid (Below w.heap.size w (((w.alloc (.cells #[u] 26)).alloc (.cells #[.int .i64 x] 3)).alloc (.cells #[.int .i64 0, .int .i64 0] 62))) := Lib.hid (by go_grown)
  have HU3 := Lib.hid (h.keep (w' := (((w.alloc (.cells #[u] 26)).alloc (.cells #[.int .i64 x] 3)).alloc (.cells #[.int .i64 0, .int .i64 0] 62))) (belowSame HB3.out hT))
  have HG := Lib.hid hg
  have hn : xs.length ≤ 30 := hg.1.2
  have b0 : (((w.alloc (.cells #[u] 26)).alloc (.cells #[.int .i64 x] 3)).alloc (.cells #[.int .i64 0, .int .i64 0] 62)).cell? ⟨w.heap.size, 0, none⟩ = some u := by go_simp
  have b1 : (((w.alloc (.cells #[u] 26)).alloc (.cells #[.int .i64 x] 3)).alloc (.cells #[.int .i64 0, .int .i64 0] 62)).cell? ⟨w.heap.size + 1, 0, none⟩ = some (.int .i64 x) := by go_simp
  have B0 := Lib.hid b0
  have B1 := Lib.hid b1
  have hs0 : selT (reachP xs x) xs.length = [] := by rw [rch_sel, rch_none xs x hno]; rfl
  have HS0 := Lib.hid hs0
  obtain ⟨g1, c1, rfl⟩ := list_form h (by have := hg.1.1; omega)
  clear h hg b0 b1 hs0
  go_enter Try.func41, Try.ntmps41
  go_wp2_with (first | (go_at_call 52; (refine (where_reach xs.length xs x w.heap.size (w.heap.size + 1) _ B T (reachP xs x) _ hn rfl HU3.out (by simp; omega) HG.out B0.out B1.out hx (fun _ _ => rfl)).mono ?_); rintro e w1 ⟨v, rfl, hI, hb1⟩; rw [HS0.out] at hI; obtain ⟨a2, c2, g2, rfl, _⟩ := hI.view; (have hz1 : w.heap.size + 3 ≤ w1.heap.size := by have := hb1.size; simp at this; omega); (have hB1 : Below w.heap.size w w1 := HB3.out.trans (hb1.mono (by first | (simp; done) | (simp; omega)))); (have r0 : w1.cell? ⟨w.heap.size + 1 + 1, 0, none⟩ = some (.int .i64 0) := cellB hb1 (by first | assumption | go_simp)); (have r1 : w1.cell? ⟨w.heap.size + 1 + 1, 1, none⟩ = some (.int .i64 0) := cellB hb1 (by first | assumption | go_simp)); (have s0 : w1.frozen? ⟨w.heap.size + 1 + 1, 0, none⟩ = false := (hb1.frozen (p := ⟨w.heap.size + 1 + 1, 0, none⟩) (by first | (simp; done) | omega | (simp; omega))).trans (by first | assumption | go_simp)); (have s1 : w1.frozen? ⟨w.heap.size + 1 + 1, 1, none⟩ = false := (hb1.frozen (p := ⟨w.heap.size + 1 + 1, 1, none⟩) (by first | (simp; done) | omega | (simp; omega))).trans (by first | assumption | go_simp))))
  exact bodyPost_ret (v := .tuple #[.int .i64 0, .agg #[.int .i64 0, .int .i64 0], .bool false]) (by simp [results, Try.results41, go_sem, *]) rfl ⟨rfl, by go_grown⟩

set_option maxHeartbeats 4000000 in
theorem highestAt_some (u : Value) (xs : List (Int × Int)) (B T : Nat) (w : World) (h : PairsIn 55 w B T u xs) (hT : T ≤ w.heap.size) (x : Int) (b : Nat) (hg : goodT xs) (hx : 0 ≤ x) (hb : BestTo xs x xs.length b) :
    Calls Try.prog 41 #[u, .int .i64 x] w fun e w' => e = .returned (.tuple #[.int .i64 b, .agg #[.int .i64 (lowA (hN xs x b) (hD xs b) : Nat), .int .i64 (lowB (hN xs x b) (hD xs b) : Nat)], .bool true]) ∧ Below w.heap.size w w' := by
  have HB3 : Hid (Below w.heap.size w (((w.alloc (.cells #[u] 26)).alloc (.cells #[.int .i64 x] 3)).alloc (.cells #[.int .i64 0, .int .i64 0] 62))) := Lib.hid (by go_grown)
  have HU3 := Lib.hid (h.keep (w' := (((w.alloc (.cells #[u] 26)).alloc (.cells #[.int .i64 x] 3)).alloc (.cells #[.int .i64 0, .int .i64 0] 62))) (belowSame HB3.out hT))
  have HG := Lib.hid hg
  have hn : xs.length ≤ 30 := hg.1.2
  have b0 : (((w.alloc (.cells #[u] 26)).alloc (.cells #[.int .i64 x] 3)).alloc (.cells #[.int .i64 0, .int .i64 0] 62)).cell? ⟨w.heap.size, 0, none⟩ = some u := by go_simp
  have b1 : (((w.alloc (.cells #[u] 26)).alloc (.cells #[.int .i64 x] 3)).alloc (.cells #[.int .i64 0, .int .i64 0] 62)).cell? ⟨w.heap.size + 1, 0, none⟩ = some (.int .i64 x) := by go_simp
  have B0 := Lib.hid b0
  have B1 := Lib.hid b1
  obtain ⟨p, hp, hpb⟩ := rch_place xs x b hb.1 hb.2.1
  have hlen := rch_len xs x
  have hsl := sel_len xs x
  obtain ⟨g1, c1, rfl⟩ := list_form h (by have := hg.1.1; omega)
  have hb' := hb
  clear h hg b0 b1 hb
  go_enter Try.func41, Try.ntmps41
  go_wp2_with (first
    | (go_at_call 52; (refine (where_reach xs.length xs x w.heap.size (w.heap.size + 1) _ B T (reachP xs x) _ hn rfl HU3.out (by simp; omega) HG.out B0.out B1.out hx (fun _ _ => rfl)).mono ?_); rintro e w1 ⟨v, rfl, hI, hb1⟩; obtain ⟨a2, c2, g2, rfl, ha2, _, _, hg2, hc2, _⟩ := hI.view; rw [hsl] at ha2 hg2 ⊢; obtain rfl := ha2 (by omega); have hg2' := hg2 (by omega); simp at hg2'; have HI := Lib.hid hI; have HU1 := Lib.hid (HU3.out.keep (belowSame hb1 (by simp; omega))); (have d0 : w1.cell? ⟨w.heap.size, 0, none⟩ = _ := cellB hb1 B0.out); (have d1 : w1.cell? ⟨w.heap.size + 1, 0, none⟩ = _ := cellB hb1 B1.out); (have r0 : w1.cell? ⟨w.heap.size + 1 + 1, 0, none⟩ = some (.int .i64 0) := cellB hb1 (by first | assumption | go_simp)); (have r1 : w1.cell? ⟨w.heap.size + 1 + 1, 1, none⟩ = some (.int .i64 0) := cellB hb1 (by first | assumption | go_simp)); (have s0 : w1.frozen? ⟨w.heap.size + 1 + 1, 0, none⟩ = false := (hb1.frozen (p := ⟨w.heap.size + 1 + 1, 0, none⟩) (by first | (simp; done) | omega | (simp; omega))).trans (by first | assumption | go_simp)); (have s1 : w1.frozen? ⟨w.heap.size + 1 + 1, 1, none⟩ = false := (hb1.frozen (p := ⟨w.heap.size + 1 + 1, 1, none⟩) (by first | (simp; done) | omega | (simp; omega))).trans (by first | assumption | go_simp)); (have hz1 : w.heap.size + 3 ≤ w1.heap.size := by have := hb1.size; simp at this; omega); (have hB1 : Below w.heap.size w w1 := HB3.out.trans (hb1.mono (by first | (simp; done) | (simp; omega)))); clear hb1 hc2 ha2 hI)
    | (go_at_call 70; rw [← hsl]; (refine (maxFn_any xs x w.heap.size (w.heap.size + 1) _ _ B T _ _ HU1.out (by omega) HG.out d0 d1 hx HI.out (by omega)).mono ?_); rintro e w2 ⟨⟨m, rfl, hm1, hm2, hm3⟩, hb2⟩; have HU2 := Lib.hid (HU1.out.keep (belowSame hb2 (by omega))); have HI2 := Lib.hid (HI.out.later hb2); (have f0 : w2.cell? ⟨w.heap.size, 0, none⟩ = _ := cellB hb2 d0); (have f1 : w2.cell? ⟨w.heap.size + 1, 0, none⟩ = _ := cellB hb2 d1); (have r0 : w2.cell? ⟨w.heap.size + 1 + 1, 0, none⟩ = some (.int .i64 0) := cellB hb2 (by first | assumption | go_simp)); (have r1 : w2.cell? ⟨w.heap.size + 1 + 1, 1, none⟩ = some (.int .i64 0) := cellB hb2 (by first | assumption | go_simp)); (have s0 : w2.frozen? ⟨w.heap.size + 1 + 1, 0, none⟩ = false := (hb2.frozen (p := ⟨w.heap.size + 1 + 1, 0, none⟩) (by first | (simp; done) | omega | (simp; omega))).trans (by first | assumption | go_simp)); (have s1 : w2.frozen? ⟨w.heap.size + 1 + 1, 1, none⟩ = false := (hb2.frozen (p := ⟨w.heap.size + 1 + 1, 1, none⟩) (by first | (simp; done) | omega | (simp; omega))).trans (by first | assumption | go_simp)); (have hz2 : w.heap.size + 3 ≤ w2.heap.size := by have := hb2.size; omega); (have hB2 : Below w.heap.size w w2 := hB1.trans (hb2.mono (by omega))); clear hb2 d0 d1))
  obtain ⟨a, b', hab⟩ : ∃ a b, xs.getD m (0, 0) = (a, b) := ⟨_, _, rfl⟩
  obtain ⟨e0, e1⟩ := elem_cells HU2.out m hm1 a b' hab
  have hgm := HG.out.at m hm1
  rw [hab] at hgm
  have hxa : 0 ≤ x ∧ x ≤ a := ⟨hx, by have := of_decide_eq_true hm2; rw [hab] at this; exact this⟩
  have hh := fun W => heightOf_any a b' x W hgm hxa
  rw [show hgt a b' x = hN xs x m by unfold hN; rw [hab], show a.toNat = hD xs m by unfold hD; rw [hab]] at hh
  obtain ⟨P, hP⟩ : ∃ p, lowA (hN xs x m) (hD xs m) = p := ⟨_, rfl⟩
  obtain ⟨Q, hQ⟩ : ∃ p, lowB (hN xs x m) (hD xs m) = p := ⟨_, rfl⟩
  rw [hP, hQ] at hh
  have HH := Lib.hid hh
  have HPP := Lib.hid hP
  have HQQ := Lib.hid hQ
  have k1 : 0 ≤ (m : Int) := by omega
  have k2 : (m : Int) < (xs.length : Int) := by omega
  have lbm : leH xs x b m := hm3 b hb'.1 hb'.2.1
  have lmb : leH xs x m b := (hb'.2.2 m hm1 hm2).1
  have HEQ := Lib.hid (show lowA (hN xs x b) (hD xs b) = P ∧ lowB (hN xs x b) (hD xs b) = Q from by
    rw [← hP, ← hQ]
    exact (low_eq _ _ _ _ (hD_pos HG.out b hb'.1) (hD_pos HG.out m hm1)).2 (by unfold leH at lbm lmb; omega))
  have HY := Lib.hid (show decide (leH xs x ((rchL xs x).getD p 0) m ∧ leH xs x m ((rchL xs x).getD p 0)) = true by rw [hpb]; exact decide_eq_true ⟨lbm, lmb⟩)
  have HNO := Lib.hid (show ∀ i, i < p → decide (leH xs x ((rchL xs x).getD i 0) m ∧ leH xs x m ((rchL xs x).getD i 0)) = false from fun i hi => by
    have hri := rch_at xs x i (by omega)
    have hlt := rch_less xs x i p hi hp
    rw [hpb] at hlt
    rw [decide_eq_false_iff_not]
    exact fun h => (hb'.2.2 _ hri.1 hri.2).2 hlt (leH_trans HG.out x hm1 lbm h.2))
  clear hP hQ hh hgm hab hm3 lbm lmb
  have keep5 : ∀ w', Below w2.heap.size w2 w' → Below w2.heap.size w2 w' ∧ w'.cell? ⟨w.heap.size, 0, none⟩ = some (.slice (some ⟨g1, 0, none⟩) xs.length c1) ∧ w'.cell? ⟨w.heap.size + 1, 0, none⟩ = some (.int .i64 x) ∧ w'.cell? ⟨g1, m * 2, none⟩ = some (.int .i64 a) ∧ w'.cell? ⟨g1, m * 2 + 1, none⟩ = some (.int .i64 b') := fun w' hb => ⟨hb, cellB hb f0, cellB hb f1, cellB hb e0, cellB hb e1⟩
  have K5 := Lib.hid keep5
  clear keep5
  refine wp_region_held_drew (S := fun w' => Below w2.heap.size w2 w' ∧ w'.cell? ⟨w.heap.size, 0, none⟩ = some (.slice (some ⟨g1, 0, none⟩) xs.length c1) ∧ w'.cell? ⟨w.heap.size + 1, 0, none⟩ = some (.int .i64 x) ∧ w'.cell? ⟨g1, m * 2, none⟩ = some (.int .i64 a) ∧ w'.cell? ⟨g1, m * 2 + 1, none⟩ = some (.int .i64 b')) (by kernel_rfl) (by (try dsimp only); exact K5.out _ (by go_grown)) (fun hHeld => ?_)
  refine wpAnyH_take (i := 0) (v := ?v25) rfl (by kernel_rfl) (by kernel_rfl) (by kernel_rfl) (fun _ _ _ h => h) (Or.inl ⟨by rfl, ?hy25⟩) (by assumption) ?rest25
  case hy25 => (intro w hSw; (try dsimp only at hSw); go_simp; (try with_reducible rfl))
  simp only [Act.put, List.getElem_toArray, List.getElem_cons_zero, List.setIfInBounds_toArray, List.set_cons_zero, List.set_cons_succ]
  refine wpAnyH_take (i := 1) (v := ?v26) rfl (by kernel_rfl) (by kernel_rfl) (by kernel_rfl) (fun _ _ _ h => h) (Or.inl ⟨by rfl, ?hy26⟩) (by assumption) ?rest26
  case hy26 => (intro w hSw; (try dsimp only at hSw); go_simp; (try with_reducible rfl))
  simp only [Act.put, List.getElem_toArray, List.getElem_cons_zero, List.getElem_cons_succ, List.setIfInBounds_toArray, List.set_cons_zero, List.set_cons_succ]
  refine wpAnyH_take (i := 2) (v := ?v27) rfl (by kernel_rfl) (by kernel_rfl) (by kernel_rfl) (fun _ _ _ h => h) (Or.inl ⟨by rfl, ?hy27⟩) (by assumption) ?rest27
  case hy27 => (intro w hSw; (try dsimp only at hSw); go_simp; (try with_reducible rfl))
  simp only [Act.put, List.getElem_toArray, List.getElem_cons_zero, List.getElem_cons_succ, List.setIfInBounds_toArray, List.set_cons_zero, List.set_cons_succ]
  refine wpAnyH_take (i := 3) (v := ?v28) rfl (by kernel_rfl) (by kernel_rfl) (by kernel_rfl) (fun _ _ _ h => h) (Or.inl ⟨by rfl, ?hy28⟩) (by assumption) ?rest28
  case hy28 => (intro w hSw; (try dsimp only at hSw); go_simp; (try with_reducible rfl))
  simp only [Act.put, List.getElem_toArray, List.getElem_cons_zero, List.getElem_cons_succ, List.setIfInBounds_toArray, List.set_cons_zero, List.set_cons_succ]
  refine wpAnyH_take (i := 4) (v := ?v29) rfl (by kernel_rfl) (by kernel_rfl) (by kernel_rfl) (fun _ _ _ h => h) (Or.inl ⟨by rfl, ?hy29⟩) (by assumption) ?rest29
  case hy29 => (intro w hSw; (try dsimp only at hSw); go_simp; (try with_reducible rfl))
  simp only [Act.put, List.getElem_toArray, List.getElem_cons_zero, List.getElem_cons_succ, List.setIfInBounds_toArray, List.set_cons_zero, List.set_cons_succ]
  refine wpAnyH_ready (rs := [5, 6]) (by kernel_rfl) (by simp) ?_
  refine AllReadyH.cons rfl (fun K hK => ?_) (AllReadyH.cons rfl (fun K hK => ?_) AllReadyH.nil)
  · skip
    simp only [List.getElem_toArray, List.getElem_cons_zero, List.getElem_cons_succ]
    go_simp
    go_at_call 74; (with_reducible refine (HH.out _).mono ?_); rintro e w3 ⟨rfl, hb3⟩; have hb23 := hHeld.1.trans (hb3.mono hHeld.1.size); have hz3 := hb23.size
    dsimp only
    refine hK.out _ _ (by (try dsimp only); exact K5.out _ (hHeld.1.trans (hb3.mono hHeld.1.size))) (fun hHeld => ?_)
    clear hK K
    refine wpAnyH_ready (rs := [6]) (by kernel_rfl) (by simp) ?_
    refine AllReadyH.cons rfl (fun K hK => ?_) AllReadyH.nil
    simp only [List.getElem_toArray, List.getElem_cons_zero, List.getElem_cons_succ]
    go_simp
    refine hK.out _ _ (by (try dsimp only); exact K5.out _ (by go_grown)) (fun hHeld => ?_)
    clear hK K
    refine wpAnyH_ready (rs := [7]) (by kernel_rfl) (by simp) ?_
    refine AllReadyH.cons rfl (fun K hK => ?_) AllReadyH.nil
    simp only [List.getElem_toArray, List.getElem_cons_zero, List.getElem_cons_succ]
    go_simp
    refine hK.out _ _ (by (try dsimp only); exact K5.out _ (by go_grown)) (fun hHeld => ?_)
    clear hK K
    refine wpAnyH_done (by kernel_rfl) ?_ _
    have HHELD := Lib.hid hHeld.1
    have v0 : (w3.alloc (.cells #[.int .i64 (P : Nat), .int .i64 (Q : Nat)] 62)).cell? ⟨w3.heap.size, 0, none⟩ = some (.int .i64 (P : Nat)) := by go_simp
    have v1 : (w3.alloc (.cells #[.int .i64 (P : Nat), .int .i64 (Q : Nat)] 62)).cell? ⟨w3.heap.size, 1, none⟩ = some (.int .i64 (Q : Nat)) := by go_simp
    have HUW := Lib.hid (HU2.out.keep (belowSame hHeld.1 (by omega)))
    have HIW := Lib.hid (HI2.out.later hHeld.1)
    have f0W := hHeld.2.1
    have f1W := hHeld.2.2.1
    have hzW := hHeld.1.size
    have t0 := cellB hHeld.1 r0
    have t1 := cellB hHeld.1 r1
    have u0 := (hHeld.1.frozen (p := ⟨w.heap.size + 1 + 1, 0, none⟩) (by show w.heap.size + 1 + 1 < _; omega)).trans s0
    have u1 := (hHeld.1.frozen (p := ⟨w.heap.size + 1 + 1, 1, none⟩) (by show w.heap.size + 1 + 1 < _; omega)).trans s1
    obtain ⟨W, hW⟩ : ∃ W, W = (w3.alloc (.cells #[.int .i64 (P : Nat), .int .i64 (Q : Nat)] 62)) := ⟨_, rfl⟩
    rw [← hW] at v0 v1 HUW HIW f0W f1W hzW t0 t1 u0 u1 HHELD ⊢
    have hWgh : w3.heap.size < W.heap.size := by rw [hW]; simp; try omega
    clear hW hHeld
    go_wp2_with (first | (go_at_call 75; rw [← hsl]; (refine (idxFn_any xs x m p w.heap.size (w.heap.size + 1) (w3.heap.size) _ _ B T _ _ HUW.out (by omega) HG.out f0W f1W hx HIW.out hm1 (by rw [HPP.out]; exact v0) (by rw [HQQ.out]; exact v1) hp HY.out HNO.out).mono ?_); rintro e w5 ⟨rfl, hb5⟩; (have x0 := cellB hb5 v0); (have x1 := cellB hb5 v1); (have y0 := cellB hb5 t0); (have y1 := cellB hb5 t1); (have y2 := (hb5.frozen (p := ⟨w.heap.size + 1 + 1, 0, none⟩) (by show w.heap.size + 1 + 1 < _; omega)).trans u0); (have y3 := (hb5.frozen (p := ⟨w.heap.size + 1 + 1, 1, none⟩) (by show w.heap.size + 1 + 1 < _; omega)).trans u1); (have HI5 := Lib.hid (HIW.out.later hb5)); (have hB5 : Below w.heap.size w w5 := hB2.trans ((HHELD.out.trans (hb5.mono hzW)).mono (by omega))); (have hz5 := hb5.size); clear hb5))
    have cp : w5.cell? ⟨g2, p, none⟩ = some (.int .i64 (b : Nat)) := by
      obtain ⟨a9, c9, g9, hv9, ha9, _, _, _, hc9, _⟩ := HI5.out.view
      have := hc9 p (by rw [hsl]; exact hp)
      rw [sel_getD xs x p hp, hpb] at this
      have hg9 : some (⟨g2, 0, none⟩ : Addr) = some ⟨g9, 0, none⟩ := by
        have h1 := ha9 (by rw [hsl]; omega)
        simp only [Value.slice.injEq] at hv9
        rw [hv9.1, h1]
      simp only [Option.some.injEq, Addr.mk.injEq] at hg9
      rw [hg9.1]
      exact this
    have m1 : ¬ w.heap.size + 1 + 1 = g2 := by omega
    have m2 : ¬ g2 = w.heap.size + 1 + 1 := by omega
    have m3 : ¬ w.heap.size + 1 + 1 = w3.heap.size := by omega
    have m4 : ¬ w3.heap.size = w.heap.size + 1 + 1 := by omega
    have p0 : 0 ≤ (p : Int) := by omega
    have p1 : (p : Int) < ((rchL xs x).length : Int) := by omega
    go_region_held3 (fun w' => w'.cell? ⟨g2, p, none⟩ = some (.int .i64 (b : Nat)) ∧ w'.cell? ⟨w3.heap.size, 0, none⟩ = some (.int .i64 (P : Nat)) ∧ w'.cell? ⟨w3.heap.size, 1, none⟩ = some (.int .i64 (Q : Nat))) (go_keep) (fail)
    go_wp2
    exact bodyPost_ret (v := .tuple #[.int .i64 b, .agg #[.int .i64 (P : Nat), .int .i64 (Q : Nat)], .bool true]) (by simp [results, Try.results41, go_sem, *]) rfl ⟨by rw [HEQ.out.1, HEQ.out.2], by go_grown⟩
  · skip
    simp only [List.getElem_toArray, List.getElem_cons_zero, List.getElem_cons_succ]
    go_simp
    refine hK.out _ _ (by (try dsimp only); exact K5.out _ (by go_grown)) (fun hHeld => ?_)
    clear hK K
    refine wpAnyH_ready (rs := [5]) (by kernel_rfl) (by simp) ?_
    refine AllReadyH.cons rfl (fun K hK => ?_) AllReadyH.nil
    simp only [List.getElem_toArray, List.getElem_cons_zero, List.getElem_cons_succ]
    go_simp
    go_at_call 74; (with_reducible refine (HH.out _).mono ?_); rintro e w3 ⟨rfl, hb3⟩; have hb23 := hHeld.1.trans (hb3.mono hHeld.1.size); have hz3 := hb23.size; have q0 := cellB hb3 (b := w2.heap.size) (o := 0) (x := .int .i64 0) (by go_simp); have q1 := cellB hb3 (b := w2.heap.size) (o := 1) (x := .int .i64 0) (by go_simp); have p0 : w3.frozen? ⟨w2.heap.size, 0, none⟩ = false := (hb3.frozen (p := ⟨w2.heap.size, 0, none⟩) (by simp)).trans (by go_simp); have p1 : w3.frozen? ⟨w2.heap.size, 1, none⟩ = false := (hb3.frozen (p := ⟨w2.heap.size, 1, none⟩) (by simp)).trans (by go_simp); have hb23 := hHeld.1.trans (hb3.mono hHeld.1.size); have hz3 := hb23.size; have hz3' : w2.heap.size < w3.heap.size := by have := hb3.size; simp at this; omega
    dsimp only
    refine hK.out _ _ (by (try dsimp only); exact K5.out _ (hHeld.1.trans (hb3.mono hHeld.1.size))) (fun hHeld => ?_)
    clear hK K
    refine wpAnyH_ready (rs := [7]) (by kernel_rfl) (by simp) ?_
    refine AllReadyH.cons rfl (fun K hK => ?_) AllReadyH.nil
    simp only [List.getElem_toArray, List.getElem_cons_zero, List.getElem_cons_succ]
    go_simp
    refine hK.out _ _ (by (try dsimp only); exact K5.out _ ((hb23.setCell (p := ⟨w2.heap.size, 0, none⟩) (Nat.le_refl _) _).setCell (p := ⟨w2.heap.size, 1, none⟩) (Nat.le_refl _) _)) (fun hHeld => ?_)
    clear hK K
    refine wpAnyH_done (by kernel_rfl) ?_ _
    have HHELD := Lib.hid hHeld.1
    have v0 : ((w3.setCell ⟨w2.heap.size, 0, none⟩ (.int .i64 (P : Nat))).setCell ⟨w2.heap.size, 1, none⟩ (.int .i64 (Q : Nat))).cell? ⟨w2.heap.size, 0, none⟩ = some (.int .i64 (P : Nat)) := by go_simp
    have v1 : ((w3.setCell ⟨w2.heap.size, 0, none⟩ (.int .i64 (P : Nat))).setCell ⟨w2.heap.size, 1, none⟩ (.int .i64 (Q : Nat))).cell? ⟨w2.heap.size, 1, none⟩ = some (.int .i64 (Q : Nat)) := by go_simp
    have HUW := Lib.hid (HU2.out.keep (belowSame hHeld.1 (by omega)))
    have HIW := Lib.hid (HI2.out.later hHeld.1)
    have f0W := hHeld.2.1
    have f1W := hHeld.2.2.1
    have hzW := hHeld.1.size
    have t0 := cellB hHeld.1 r0
    have t1 := cellB hHeld.1 r1
    have u0 := (hHeld.1.frozen (p := ⟨w.heap.size + 1 + 1, 0, none⟩) (by show w.heap.size + 1 + 1 < _; omega)).trans s0
    have u1 := (hHeld.1.frozen (p := ⟨w.heap.size + 1 + 1, 1, none⟩) (by show w.heap.size + 1 + 1 < _; omega)).trans s1
    obtain ⟨W, hW⟩ : ∃ W, W = ((w3.setCell ⟨w2.heap.size, 0, none⟩ (.int .i64 (P : Nat))).setCell ⟨w2.heap.size, 1, none⟩ (.int .i64 (Q : Nat))) := ⟨_, rfl⟩
    rw [← hW] at v0 v1 HUW HIW f0W f1W hzW t0 t1 u0 u1 HHELD ⊢
    have hWgh : w2.heap.size < W.heap.size := by rw [hW]; simp; try omega
    clear hW hHeld
    go_wp2_with (first | (go_at_call 75; rw [← hsl]; (refine (idxFn_any xs x m p w.heap.size (w.heap.size + 1) (w2.heap.size) _ _ B T _ _ HUW.out (by omega) HG.out f0W f1W hx HIW.out hm1 (by rw [HPP.out]; exact v0) (by rw [HQQ.out]; exact v1) hp HY.out HNO.out).mono ?_); rintro e w5 ⟨rfl, hb5⟩; (have x0 := cellB hb5 v0); (have x1 := cellB hb5 v1); (have y0 := cellB hb5 t0); (have y1 := cellB hb5 t1); (have y2 := (hb5.frozen (p := ⟨w.heap.size + 1 + 1, 0, none⟩) (by show w.heap.size + 1 + 1 < _; omega)).trans u0); (have y3 := (hb5.frozen (p := ⟨w.heap.size + 1 + 1, 1, none⟩) (by show w.heap.size + 1 + 1 < _; omega)).trans u1); (have HI5 := Lib.hid (HIW.out.later hb5)); (have hB5 : Below w.heap.size w w5 := hB2.trans ((HHELD.out.trans (hb5.mono hzW)).mono (by omega))); (have hz5 := hb5.size); clear hb5))
    have cp : w5.cell? ⟨g2, p, none⟩ = some (.int .i64 (b : Nat)) := by
      obtain ⟨a9, c9, g9, hv9, ha9, _, _, _, hc9, _⟩ := HI5.out.view
      have := hc9 p (by rw [hsl]; exact hp)
      rw [sel_getD xs x p hp, hpb] at this
      have hg9 : some (⟨g2, 0, none⟩ : Addr) = some ⟨g9, 0, none⟩ := by
        have h1 := ha9 (by rw [hsl]; omega)
        simp only [Value.slice.injEq] at hv9
        rw [hv9.1, h1]
      simp only [Option.some.injEq, Addr.mk.injEq] at hg9
      rw [hg9.1]
      exact this
    have m1 : ¬ w.heap.size + 1 + 1 = g2 := by omega
    have m2 : ¬ g2 = w.heap.size + 1 + 1 := by omega
    have m3 : ¬ w.heap.size + 1 + 1 = w2.heap.size := by omega
    have m4 : ¬ w2.heap.size = w.heap.size + 1 + 1 := by omega
    have p0 : 0 ≤ (p : Int) := by omega
    have p1 : (p : Int) < ((rchL xs x).length : Int) := by omega
    go_region_held3 (fun w' => w'.cell? ⟨g2, p, none⟩ = some (.int .i64 (b : Nat)) ∧ w'.cell? ⟨w2.heap.size, 0, none⟩ = some (.int .i64 (P : Nat)) ∧ w'.cell? ⟨w2.heap.size, 1, none⟩ = some (.int .i64 (Q : Nat))) (go_keep) (fail)
    go_wp2
    exact bodyPost_ret (v := .tuple #[.int .i64 b, .agg #[.int .i64 (P : Nat), .int .i64 (Q : Nat)], .bool true]) (by simp [results, Try.results41, go_sem, *]) rfl ⟨by rw [HEQ.out.1, HEQ.out.2], by go_grown⟩

end Go.Proofs.Ytngonpiiehmlaab
