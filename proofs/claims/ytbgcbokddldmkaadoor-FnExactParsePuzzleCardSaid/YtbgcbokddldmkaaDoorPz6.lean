/- Puzzles that texts tell: the model's reader. -/
import Derived.Test.YtbgcbokddldmkaaDoorPz2
import Derived.Test.YtbgcbokddldmkaaDoorPz4
import Derived.Test.YtbgcbokddldmkaaDoorSM
import Derived.Test.YtbgcbokddldmkaaDoorSR
import Derived.Deep.RegionHeld3
namespace Go.Proofs.YtbgcbokddldmkaaDoor
open Go.RowKit
set_option linter.unusedVariables false

/-- What a round of the model's reader keeps: all blocks of w1 but b, and three texts. -/
structure PzS (b : Nat) (w1 : World) (ge : Nat) (x y z : ByteArray) (w' : World) : Prop where
  only : Only b (b + 1) w1 w'
  s0 : w'.cell? ⟨ge, 0, none⟩ = some (.string x)
  s1 : w'.cell? ⟨ge, 1, none⟩ = some (.string y)
  s2 : w'.cell? ⟨ge, 2, none⟩ = some (.string z)

theorem PzS.below {b ge : Nat} {w1 W W' : World} {x y z : ByteArray} (h : PzS b w1 ge x y z W) (hb : Below W.heap.size W W') : PzS b w1 ge x y z W' :=
  ⟨onlyLater h.only (hb.mono h.only.size), cellB hb h.s0, cellB hb h.s1, cellB hb h.s2⟩

theorem PzS.grown {b ge : Nat} {w1 W W' : World} {x y z : ByteArray} {row : Option Nat} (h : PzS b w1 ge x y z W) (hg : W.grownBy W' row) (hr : ∀ k, row = some k → w1.heap.size ≤ k ∧ k ≠ ge) : PzS b w1 ge x y z W' := by
  have hne : some ge ≠ row := fun e => (hr ge e.symm).2 rfl
  exact ⟨onlyLater h.only ((Below.refl _ _).grown hg h.only.size fun k hk => (hr k hk).1), hg.cell h.s0 hne, hg.cell h.s1 hne, hg.cell h.s2 hne⟩

theorem PzS.set {b ge : Nat} {w1 W : World} {x y z : ByteArray} (h : PzS b w1 ge x y z W) (hne : b ≠ ge) (o : Nat) (v : Value) : PzS b w1 ge x y z (W.setCell ⟨b, o, none⟩ v) := by
  have hc : ∀ j, (W.setCell ⟨b, o, none⟩ v).cell? ⟨ge, j, none⟩ = W.cell? ⟨ge, j, none⟩ := fun j => by
    unfold World.cell?
    rw [setCell_other _ _ _ (by show b ≠ ge; exact hne)]
  exact ⟨onlySet h.only _ _, (hc 0).trans h.s0, (hc 1).trans h.s1, (hc 2).trans h.s2⟩

set_option maxHeartbeats 4000000 in
set_option maxRecDepth 100000 in
theorem pzParse_loop (s : ByteArray) (P : List ByteArray) (f : Nat → Tri) (w : World) (h100 : (s.size : Int) ≤ 100) (h0 : 0 < (s.size : Int)) (hP : P.length ≤ 101) (hpos : 0 < P.length) (hsp : ∀ W, Calls Tryd.prog 83 #[.string s, .int .u8 44] W fun e w' => ∃ v, e = .returned v ∧ Strs w' W.heap.size 9 v P ∧ Below W.heap.size W w')
    (m : Nat) (b : Bool) (R : List Tri) (hm : m ≤ P.length) (hok : ∀ k, k < m → ∃ a b c : ByteArray, (∀ W, Calls Tryd.prog 83 #[.string (P.getD k ⟨#[]⟩), .int .u8 46] W fun e w' => ∃ v, e = .returned v ∧ Strs w' W.heap.size 9 v [a, b, c] ∧ Below W.heap.size W w') ∧ (∀ W, Calls Tryd.prog 84 #[.string a] W fun e w' => e = .returned (.int .i64 (f k).1) ∧ W = w') ∧ (∀ W, Calls Tryd.prog 84 #[.string b] W fun e w' => e = .returned (.int .i64 (f k).2.1) ∧ W = w') ∧ (∀ W, Calls Tryd.prog 84 #[.string c] W fun e w' => e = .returned (.int .i64 (f k).2.2) ∧ W = w'))
    (hend : (m = P.length ∧ (b = true ∧ R = ((List.range m).map f)) ∧ puzzleP ((List.range m).map f) ∧ ptextB ((List.range m).map f) (((List.range m).map f)).length = s) ∨ (m = P.length ∧ (b = false ∧ R = ((List.range m).map f)) ∧ puzzleP ((List.range m).map f) ∧ ptextB ((List.range m).map f) (((List.range m).map f)).length ≠ s) ∨ (m = P.length ∧ (b = false ∧ R = ((List.range m).map f)) ∧ ¬ puzzleP ((List.range m).map f)) ∨ (m < P.length ∧ (b = false ∧ R = []) ∧ ∃ xs : List ByteArray, xs.length ≠ 3 ∧ 0 < xs.length ∧ (∀ W, Calls Tryd.prog 83 #[.string (P.getD m ⟨#[]⟩), .int .u8 46] W fun e w' => ∃ v, e = .returned v ∧ Strs w' W.heap.size 9 v xs ∧ Below W.heap.size W w'))) :
    Calls Tryd.prog 75 #[.string s] w (GivesZ w R b) := by
  have HS := Lib.hid hsp
  have HOK := Lib.hid hok
  have HE := Lib.hid hend
  have HPOS := Lib.hid hpos
  clear hsp hok hend hpos
  go_enter Tryd.func75, Tryd.ntmps75
  go_wp2_with (first | (go_at_call 83; (refine (HS.out _).mono ?_); rintro e w1 ⟨v, rfl, hst, hb1⟩; obtain ⟨cap, g1, rfl, hmax, hg1, hg2, hcc, hff⟩ := hst.view HPOS.out; have HV := Lib.hid hcc; (have hz1 : w.heap.size + 2 ≤ w1.heap.size := by (have := hb1.size; simp at this; omega)); (have c0 : w1.cell? ⟨w.heap.size, 0, none⟩ = some (.slice none 0 0) := cellB hb1 (by go_simp)); (have c1 : w1.cell? ⟨w.heap.size + 1, 0, none⟩ = some (.slice none 0 0) := cellB hb1 (by go_simp)); (have f0 : w1.frozen? ⟨w.heap.size, 0, none⟩ = false := frozenB hb1 (by simp; omega) (by go_simp)); (have f1 : w1.frozen? ⟨w.heap.size + 1, 0, none⟩ = false := frozenB hb1 (by simp) (by go_simp)); (have hB1 : Below w.heap.size w w1 := Below.trans (by go_grown) (hb1.mono (by simp; omega))); (have hg1' : w.heap.size + 2 ≤ g1 := by (simp at hg1; omega)); clear hb1 hcc hff hst hmax hg1))
  go_loopw [18] (fun i wr => ∃ k : Nat, k ≤ m ∧ i = .int .i64 k ∧ Only (w.heap.size + 1) ((w.heap.size + 1) + 1) w1 wr ∧ wr.frozen? ⟨w.heap.size + 1, 0, none⟩ = false ∧ ∃ va vn vc, wr.cell? ⟨w.heap.size + 1, 0, none⟩ = some (.slice va vn vc) ∧ Trips wr w1.heap.size 44 (.slice va vn vc) ((List.range k).map f)) (fun i _ => m - (intOf i).toNat)
  case atStart => exact ⟨0, by omega, rfl, onlyRefl _ _, f1, none, 0, 0, c1, World.ownsRow_nil _ _ _ _⟩
  case round =>
    obtain ⟨k, hk, rfl, hO, r1, va, vn, vc, d1, hI⟩ := hrel
    have HI := Lib.hid hI
    have HO := Lib.hid hO
    have hz := hO.size
    have d0 := onlyCell hO c0 (by omega)
    have r0 := onlyFrozen hO (by omega) f0 (by omega)
    have hBw : Below w.heap.size w wr := hB1.trans (hO.below (by omega) (by omega))
    have hlr : (((List.range k).map f)).length = k := by simp
    have hon : ∀ j, (Value.slice va vn vc).ownBlock = some j → w1.heap.size ≤ j ∧ j < wr.heap.size := fun j hj => hI.own j hj
    have HON := Lib.hid hon
    clear hI hO hon
    by_cases hlt : k < m
    · have hlt2 : k < P.length := by omega
      have hcell := onlyCell HO.out (HV.out k hlt2) (by omega)
      obtain ⟨sa, sb, sc, hE1, hra, hrb, hrc⟩ := HOK.out k hlt
      have HE1 := Lib.hid hE1
      have HSU := Lib.hid (show (List.range (k + 1)).map f = ((List.range k).map f) ++ [f k] by simp [List.range_succ])
      obtain ⟨t, ht⟩ : ∃ t, P.getD k ⟨#[]⟩ = t := ⟨_, rfl⟩
      obtain ⟨x, y, z, hxyz⟩ : ∃ x y z, f k = (x, y, z) := ⟨_, _, _, rfl⟩
      rw [ht] at hcell HE1
      rw [hxyz] at hra hrb hrc HSU
      simp only at hra hrb hrc
      have HRA := Lib.hid hra
      have HRB := Lib.hid hrb
      have HRC := Lib.hid hrc
      clear ht hxyz hra hrb hrc hE1
      go_wp2_with (first
        | (go_at_call 83; (refine (HE1.out _).mono ?_); rintro e w3 ⟨v3, rfl, hst3, hb3⟩; obtain ⟨cap3, ge, rfl, hmax3, hge1, hge2, hcc3, hff3⟩ := hst3.view (by simp); (have x0 : w3.cell? ⟨ge, 0, none⟩ = some (.string sa) := hcc3 0 (by simp)); (have x1 : w3.cell? ⟨ge, 1, none⟩ = some (.string sb) := hcc3 1 (by simp)); (have x2 : w3.cell? ⟨ge, 2, none⟩ = some (.string sc) := hcc3 2 (by simp)); (have e0_3 := cellB hb3 d0); (have e1_3 := cellB hb3 d1); (have g0_3 := frozenB hb3 (by omega) r0); (have g1_3 := frozenB hb3 (by omega) r1); (have hz3 := hb3.size); (have HI3 := Lib.hid (HI.out.later hb3)); (have HPS := Lib.hid (show PzS (w.heap.size + 1) w1 ge sa sb sc w3 from ⟨onlyLater HO.out (hb3.mono hz), x0, x1, x2⟩)); clear hst3 hcc3 hff3 hmax3))
      have hne : w.heap.size + 1 ≠ ge := by omega
      refine wp_region_held_drew (S := fun w' => PzS (w.heap.size + 1) w1 ge sa sb sc w') (by kernel_rfl) (by (try dsimp only); first | exact HPS.out | exact HPS.out.below (by go_grown)) (fun hHeld => ?_)
      refine wpAnyH_take (i := 0) (v := ?v13) rfl (by kernel_rfl) (by kernel_rfl) (by kernel_rfl) (fun _ _ _ h => h) (Or.inl ⟨by rfl, ?hy13⟩) (by assumption) ?rest13
      case hy13 => (intro w hSw; (try dsimp only at hSw); go_simp; (try with_reducible rfl))
      simp only [Act.put, List.getElem_toArray, List.getElem_cons_zero, List.setIfInBounds_toArray, List.set_cons_zero, List.set_cons_succ]
      refine wpAnyH_take (i := 2) (v := ?v14) rfl (by kernel_rfl) (by kernel_rfl) (by kernel_rfl) (fun _ _ _ h => h) (Or.inl ⟨by rfl, ?hy14⟩) (by assumption) ?rest14
      case hy14 => (intro w hSw; (try dsimp only at hSw); go_simp; (try with_reducible rfl))
      simp only [Act.put, List.getElem_toArray, List.getElem_cons_zero, List.getElem_cons_succ, List.setIfInBounds_toArray, List.set_cons_zero, List.set_cons_succ]
      refine wpAnyH_take (i := 3) (v := ?v15) rfl (by kernel_rfl) (by kernel_rfl) (by kernel_rfl) (fun _ _ _ h => h) (Or.inl ⟨by rfl, ?hy15⟩) (by assumption) ?rest15
      case hy15 => (intro w hSw; (try dsimp only at hSw); go_simp; (try with_reducible rfl))
      simp only [Act.put, List.getElem_toArray, List.getElem_cons_zero, List.getElem_cons_succ, List.setIfInBounds_toArray, List.set_cons_zero, List.set_cons_succ]
      refine wpAnyH_take (i := 4) (v := ?v16) rfl (by kernel_rfl) (by kernel_rfl) (by kernel_rfl) (fun _ _ _ h => h) (Or.inl ⟨by rfl, ?hy16⟩) (by assumption) ?rest16
      case hy16 => (intro w hSw; (try dsimp only at hSw); have zq0 := hSw.s0; have zq1 := hSw.s1; have zq2 := hSw.s2; go_simp; (try with_reducible rfl))
      simp only [Act.put, List.getElem_toArray, List.getElem_cons_zero, List.getElem_cons_succ, List.setIfInBounds_toArray, List.set_cons_zero, List.set_cons_succ]
      refine wpAnyH_take (i := 6) (v := ?v17) rfl (by kernel_rfl) (by kernel_rfl) (by kernel_rfl) (fun _ _ _ h => h) (Or.inl ⟨by rfl, ?hy17⟩) (by assumption) ?rest17
      case hy17 => (intro w hSw; (try dsimp only at hSw); go_simp; (try with_reducible rfl))
      simp only [Act.put, List.getElem_toArray, List.getElem_cons_zero, List.getElem_cons_succ, List.setIfInBounds_toArray, List.set_cons_zero, List.set_cons_succ]
      refine wpAnyH_take (i := 7) (v := ?v18) rfl (by kernel_rfl) (by kernel_rfl) (by kernel_rfl) (fun _ _ _ h => h) (Or.inl ⟨by rfl, ?hy18⟩) (by assumption) ?rest18
      case hy18 => (intro w hSw; (try dsimp only at hSw); go_simp; (try with_reducible rfl))
      simp only [Act.put, List.getElem_toArray, List.getElem_cons_zero, List.getElem_cons_succ, List.setIfInBounds_toArray, List.set_cons_zero, List.set_cons_succ]
      refine wpAnyH_take (i := 8) (v := ?v19) rfl (by kernel_rfl) (by kernel_rfl) (by kernel_rfl) (fun _ _ _ h => h) (Or.inl ⟨by rfl, ?hy19⟩) (by assumption) ?rest19
      case hy19 => (intro w hSw; (try dsimp only at hSw); have zq0 := hSw.s0; have zq1 := hSw.s1; have zq2 := hSw.s2; go_simp; (try with_reducible rfl))
      simp only [Act.put, List.getElem_toArray, List.getElem_cons_zero, List.getElem_cons_succ, List.setIfInBounds_toArray, List.set_cons_zero, List.set_cons_succ]
      refine wpAnyH_take (i := 10) (v := ?v20) rfl (by kernel_rfl) (by kernel_rfl) (by kernel_rfl) (fun _ _ _ h => h) (Or.inl ⟨by rfl, ?hy20⟩) (by assumption) ?rest20
      case hy20 => (intro w hSw; (try dsimp only at hSw); go_simp; (try with_reducible rfl))
      simp only [Act.put, List.getElem_toArray, List.getElem_cons_zero, List.getElem_cons_succ, List.setIfInBounds_toArray, List.set_cons_zero, List.set_cons_succ]
      refine wpAnyH_take (i := 11) (v := ?v21) rfl (by kernel_rfl) (by kernel_rfl) (by kernel_rfl) (fun _ _ _ h => h) (Or.inl ⟨by rfl, ?hy21⟩) (by assumption) ?rest21
      case hy21 => (intro w hSw; (try dsimp only at hSw); go_simp; (try with_reducible rfl))
      simp only [Act.put, List.getElem_toArray, List.getElem_cons_zero, List.getElem_cons_succ, List.setIfInBounds_toArray, List.set_cons_zero, List.set_cons_succ]
      refine wpAnyH_take (i := 12) (v := ?v22) rfl (by kernel_rfl) (by kernel_rfl) (by kernel_rfl) (fun _ _ _ h => h) (Or.inl ⟨by rfl, ?hy22⟩) (by assumption) ?rest22
      case hy22 => (intro w hSw; (try dsimp only at hSw); have zq0 := hSw.s0; have zq1 := hSw.s1; have zq2 := hSw.s2; go_simp; (try with_reducible rfl))
      simp only [Act.put, List.getElem_toArray, List.getElem_cons_zero, List.getElem_cons_succ, List.setIfInBounds_toArray, List.set_cons_zero, List.set_cons_succ]
      refine wpAnyH_ready (rs := [1, 5]) (by kernel_rfl) (by simp) ?_
      refine AllReadyH.cons rfl (fun K hK => ?_) (AllReadyH.cons rfl (fun K hK => ?_) AllReadyH.nil)
      · skip
        simp only [List.getElem_toArray, List.getElem_cons_zero, List.getElem_cons_succ]
        go_simp
        refine hK.out _ _ (by (try dsimp only); exact hHeld) (fun hHeld => ?_)
        clear hK K
        refine wpAnyH_ready (rs := [5]) (by kernel_rfl) (by simp) ?_
        refine AllReadyH.cons rfl (fun K hK => ?_) AllReadyH.nil
        simp only [List.getElem_toArray, List.getElem_cons_zero, List.getElem_cons_succ]
        go_simp
        (go_at_call 84; (with_reducible refine (HRA.out _).mono ?_); rintro e wa ⟨rfl, rfl⟩)
        go_wp2_with fail
        refine hK.out _ _ (by (try dsimp only); exact hHeld) (fun hHeld => ?_)
        clear hK K
        refine wpAnyH_ready (rs := [9]) (by kernel_rfl) (by simp) ?_
        refine AllReadyH.cons rfl (fun K hK => ?_) AllReadyH.nil
        simp only [List.getElem_toArray, List.getElem_cons_zero, List.getElem_cons_succ]
        go_simp
        (go_at_call 84; (with_reducible refine (HRB.out _).mono ?_); rintro e wa ⟨rfl, rfl⟩)
        go_wp2_with fail
        refine hK.out _ _ (by (try dsimp only); exact hHeld) (fun hHeld => ?_)
        clear hK K
        refine wpAnyH_ready (rs := [13]) (by kernel_rfl) (by simp) ?_
        refine AllReadyH.cons rfl (fun K hK => ?_) AllReadyH.nil
        simp only [List.getElem_toArray, List.getElem_cons_zero, List.getElem_cons_succ]
        go_simp
        (go_at_call 84; (with_reducible refine (HRC.out _).mono ?_); rintro e wa ⟨rfl, rfl⟩)
        go_wp2_with fail
        refine hK.out _ _ (by (try dsimp only); exact hHeld) (fun hHeld => ?_)
        clear hK K
        refine wpAnyH_take (i := 14) (v := ?v23) rfl (by kernel_rfl) (by kernel_rfl) (by kernel_rfl) (fun _ _ _ h => h) (Or.inl ⟨by rfl, ?hy23⟩) (by assumption) ?rest23
        case hy23 => (intro w hSw; (try dsimp only at hSw); go_simp; (try with_reducible rfl))
        simp only [Act.put, List.getElem_toArray, List.getElem_cons_zero, List.getElem_cons_succ, List.setIfInBounds_toArray, List.set_cons_zero, List.set_cons_succ]
        refine wpAnyH_ready (rs := [15]) (by kernel_rfl) (by simp) ?_
        refine AllReadyH.cons rfl (fun K hK => ?_) AllReadyH.nil
        simp only [List.getElem_toArray, List.getElem_cons_zero, List.getElem_cons_succ]
        go_simp
        refine hK.out _ _ (by (try dsimp only); exact hHeld.below (by first | exact (Below.refl _ _).alloc (Nat.le_refl _) _ | go_grown)) (fun hHeld => ?_)
        clear hK K
        obtain ⟨wz, hwz⟩ : ∃ q : World, q = (w3.alloc (.cells #[.int .i64 x, .int .i64 y, .int .i64 z] 44)).drew := ⟨_, rfl⟩; (have hbz : Below w3.heap.size w3 wz := by (subst hwz; exact bdn ((Below.refl _ _).alloc (Nat.le_refl _) _) _)); (have hS2 : SrcT wz (.slice (some ⟨w3.heap.size, 0, none⟩) 1 1) [(x, y, z)] := by (subst hwz; exact (Trips.boxed w3 0 44 [(x, y, z)] (Nat.zero_le _) (by simp)).src)); (have hzz : w3.heap.size < wz.heap.size := by (subst hwz; simp)); (have hI2 := HI3.out.later hbz); (have pbz := cellB hbz e1_3); (have fbz := frozenB hbz (by omega) g1_3); rw [← hwz] at hHeld ⊢; clear hwz
        refine wpAnyH_ready (rs := [16]) (by kernel_rfl) (by simp) ?_
        refine AllReadyH.cons rfl (fun K hK => ?_) AllReadyH.nil
        simp only [List.getElem_toArray, List.getElem_cons_zero, List.getElem_cons_succ]
        rw [if_pos (by rfl)]; refine wp_append_trips (.tmp 29) (.tmp 43) 29 rfl w1.heap.size 44 Tryd.underlying29 info_clue _ _ ((List.range k).map f) [(x, y, z)] rfl rfl hI2 hS2 (by rw [hlr]; simp; omega) (by omega) ?_; intro v4 w4 hI4 hg4 _
        refine hK.out _ _ (by (try dsimp only); exact hHeld.grown hg4 (fun j hj => ⟨(HON.out j hj).1, by have := (HON.out j hj).2; omega⟩)) (fun hHeld => ?_)
        clear hK K
        simp only [Act.put, List.setIfInBounds_toArray, List.set_cons_zero, List.set_cons_succ]
        have hW4 := Trips.below hI2 (Below.refl w1.heap.size wz) (by omega) hg4; have b4 := (hW4.cell (p := ⟨w.heap.size + 1, 0, none⟩) (by show w.heap.size + 1 < w1.heap.size; omega)).trans pbz; have r4 := (hW4.frozen (p := ⟨w.heap.size + 1, 0, none⟩) (by show w.heap.size + 1 < w1.heap.size; omega)).trans fbz; obtain ⟨va4, vn4, vc4, hf4⟩ := own_formT hI4; subst hf4
        refine wpAnyH_take (i := 17) (v := ?v24) rfl (by kernel_rfl) (by kernel_rfl) (by kernel_rfl) (fun _ _ _ h => h) (Or.inl ⟨by rfl, ?hy24⟩) (by assumption) ?rest24
        case hy24 => (intro w hSw; (try dsimp only at hSw); go_simp; (try with_reducible rfl))
        simp only [Act.put, List.getElem_toArray, List.getElem_cons_zero, List.getElem_cons_succ, List.setIfInBounds_toArray, List.set_cons_zero, List.set_cons_succ]
        refine wpAnyH_ready (rs := [18]) (by kernel_rfl) (by simp) ?_
        refine AllReadyH.cons rfl (fun K hK => ?_) AllReadyH.nil
        simp only [List.getElem_toArray, List.getElem_cons_zero, List.getElem_cons_succ]
        go_simp
        refine hK.out _ _ (by (try dsimp only); exact hHeld.set hne _ _) (fun hHeld => ?_)
        clear hK K
        refine wpAnyH_done (by kernel_rfl) ?_ _
        go_wp2
        go_roundw
        case rel => exact ⟨k + 1, by omega, by go_num, hHeld.only, by go_simp, va4, vn4, vc4, by go_simp, by rw [HSU.out]; exact tripsSet hI4 _ _ (by show w.heap.size + 1 < w1.heap.size; omega)⟩
        case measure => simp [intOf]; omega
      · skip
        simp only [List.getElem_toArray, List.getElem_cons_zero, List.getElem_cons_succ]
        go_simp
        (go_at_call 84; (with_reducible refine (HRA.out _).mono ?_); rintro e wa ⟨rfl, rfl⟩)
        go_wp2_with fail
        refine hK.out _ _ (by (try dsimp only); exact hHeld) (fun hHeld => ?_)
        clear hK K
        refine wpAnyH_ready (rs := [1, 9]) (by kernel_rfl) (by simp) ?_
        refine AllReadyH.cons rfl (fun K hK => ?_) (AllReadyH.cons rfl (fun K hK => ?_) AllReadyH.nil)
        · skip
          simp only [List.getElem_toArray, List.getElem_cons_zero, List.getElem_cons_succ]
          go_simp
          refine hK.out _ _ (by (try dsimp only); exact hHeld) (fun hHeld => ?_)
          clear hK K
          refine wpAnyH_ready (rs := [9]) (by kernel_rfl) (by simp) ?_
          refine AllReadyH.cons rfl (fun K hK => ?_) AllReadyH.nil
          simp only [List.getElem_toArray, List.getElem_cons_zero, List.getElem_cons_succ]
          go_simp
          (go_at_call 84; (with_reducible refine (HRB.out _).mono ?_); rintro e wa ⟨rfl, rfl⟩)
          go_wp2_with fail
          refine hK.out _ _ (by (try dsimp only); exact hHeld) (fun hHeld => ?_)
          clear hK K
          refine wpAnyH_ready (rs := [13]) (by kernel_rfl) (by simp) ?_
          refine AllReadyH.cons rfl (fun K hK => ?_) AllReadyH.nil
          simp only [List.getElem_toArray, List.getElem_cons_zero, List.getElem_cons_succ]
          go_simp
          (go_at_call 84; (with_reducible refine (HRC.out _).mono ?_); rintro e wa ⟨rfl, rfl⟩)
          go_wp2_with fail
          refine hK.out _ _ (by (try dsimp only); exact hHeld) (fun hHeld => ?_)
          clear hK K
          refine wpAnyH_take (i := 14) (v := ?v25) rfl (by kernel_rfl) (by kernel_rfl) (by kernel_rfl) (fun _ _ _ h => h) (Or.inl ⟨by rfl, ?hy25⟩) (by assumption) ?rest25
          case hy25 => (intro w hSw; (try dsimp only at hSw); go_simp; (try with_reducible rfl))
          simp only [Act.put, List.getElem_toArray, List.getElem_cons_zero, List.getElem_cons_succ, List.setIfInBounds_toArray, List.set_cons_zero, List.set_cons_succ]
          refine wpAnyH_ready (rs := [15]) (by kernel_rfl) (by simp) ?_
          refine AllReadyH.cons rfl (fun K hK => ?_) AllReadyH.nil
          simp only [List.getElem_toArray, List.getElem_cons_zero, List.getElem_cons_succ]
          go_simp
          refine hK.out _ _ (by (try dsimp only); exact hHeld.below (by first | exact (Below.refl _ _).alloc (Nat.le_refl _) _ | go_grown)) (fun hHeld => ?_)
          clear hK K
          obtain ⟨wz, hwz⟩ : ∃ q : World, q = (w3.alloc (.cells #[.int .i64 x, .int .i64 y, .int .i64 z] 44)).drew := ⟨_, rfl⟩; (have hbz : Below w3.heap.size w3 wz := by (subst hwz; exact bdn ((Below.refl _ _).alloc (Nat.le_refl _) _) _)); (have hS2 : SrcT wz (.slice (some ⟨w3.heap.size, 0, none⟩) 1 1) [(x, y, z)] := by (subst hwz; exact (Trips.boxed w3 0 44 [(x, y, z)] (Nat.zero_le _) (by simp)).src)); (have hzz : w3.heap.size < wz.heap.size := by (subst hwz; simp)); (have hI2 := HI3.out.later hbz); (have pbz := cellB hbz e1_3); (have fbz := frozenB hbz (by omega) g1_3); rw [← hwz] at hHeld ⊢; clear hwz
          refine wpAnyH_ready (rs := [16]) (by kernel_rfl) (by simp) ?_
          refine AllReadyH.cons rfl (fun K hK => ?_) AllReadyH.nil
          simp only [List.getElem_toArray, List.getElem_cons_zero, List.getElem_cons_succ]
          rw [if_pos (by rfl)]; refine wp_append_trips (.tmp 29) (.tmp 43) 29 rfl w1.heap.size 44 Tryd.underlying29 info_clue _ _ ((List.range k).map f) [(x, y, z)] rfl rfl hI2 hS2 (by rw [hlr]; simp; omega) (by omega) ?_; intro v4 w4 hI4 hg4 _
          refine hK.out _ _ (by (try dsimp only); exact hHeld.grown hg4 (fun j hj => ⟨(HON.out j hj).1, by have := (HON.out j hj).2; omega⟩)) (fun hHeld => ?_)
          clear hK K
          simp only [Act.put, List.setIfInBounds_toArray, List.set_cons_zero, List.set_cons_succ]
          have hW4 := Trips.below hI2 (Below.refl w1.heap.size wz) (by omega) hg4; have b4 := (hW4.cell (p := ⟨w.heap.size + 1, 0, none⟩) (by show w.heap.size + 1 < w1.heap.size; omega)).trans pbz; have r4 := (hW4.frozen (p := ⟨w.heap.size + 1, 0, none⟩) (by show w.heap.size + 1 < w1.heap.size; omega)).trans fbz; obtain ⟨va4, vn4, vc4, hf4⟩ := own_formT hI4; subst hf4
          refine wpAnyH_take (i := 17) (v := ?v26) rfl (by kernel_rfl) (by kernel_rfl) (by kernel_rfl) (fun _ _ _ h => h) (Or.inl ⟨by rfl, ?hy26⟩) (by assumption) ?rest26
          case hy26 => (intro w hSw; (try dsimp only at hSw); go_simp; (try with_reducible rfl))
          simp only [Act.put, List.getElem_toArray, List.getElem_cons_zero, List.getElem_cons_succ, List.setIfInBounds_toArray, List.set_cons_zero, List.set_cons_succ]
          refine wpAnyH_ready (rs := [18]) (by kernel_rfl) (by simp) ?_
          refine AllReadyH.cons rfl (fun K hK => ?_) AllReadyH.nil
          simp only [List.getElem_toArray, List.getElem_cons_zero, List.getElem_cons_succ]
          go_simp
          refine hK.out _ _ (by (try dsimp only); exact hHeld.set hne _ _) (fun hHeld => ?_)
          clear hK K
          refine wpAnyH_done (by kernel_rfl) ?_ _
          go_wp2
          go_roundw
          case rel => exact ⟨k + 1, by omega, by go_num, hHeld.only, by go_simp, va4, vn4, vc4, by go_simp, by rw [HSU.out]; exact tripsSet hI4 _ _ (by show w.heap.size + 1 < w1.heap.size; omega)⟩
          case measure => simp [intOf]; omega
        · skip
          simp only [List.getElem_toArray, List.getElem_cons_zero, List.getElem_cons_succ]
          go_simp
          (go_at_call 84; (with_reducible refine (HRB.out _).mono ?_); rintro e wa ⟨rfl, rfl⟩)
          go_wp2_with fail
          refine hK.out _ _ (by (try dsimp only); exact hHeld) (fun hHeld => ?_)
          clear hK K
          refine wpAnyH_ready (rs := [1, 13]) (by kernel_rfl) (by simp) ?_
          refine AllReadyH.cons rfl (fun K hK => ?_) (AllReadyH.cons rfl (fun K hK => ?_) AllReadyH.nil)
          · skip
            simp only [List.getElem_toArray, List.getElem_cons_zero, List.getElem_cons_succ]
            go_simp
            refine hK.out _ _ (by (try dsimp only); exact hHeld) (fun hHeld => ?_)
            clear hK K
            refine wpAnyH_ready (rs := [13]) (by kernel_rfl) (by simp) ?_
            refine AllReadyH.cons rfl (fun K hK => ?_) AllReadyH.nil
            simp only [List.getElem_toArray, List.getElem_cons_zero, List.getElem_cons_succ]
            go_simp
            (go_at_call 84; (with_reducible refine (HRC.out _).mono ?_); rintro e wa ⟨rfl, rfl⟩)
            go_wp2_with fail
            refine hK.out _ _ (by (try dsimp only); exact hHeld) (fun hHeld => ?_)
            clear hK K
            refine wpAnyH_take (i := 14) (v := ?v27) rfl (by kernel_rfl) (by kernel_rfl) (by kernel_rfl) (fun _ _ _ h => h) (Or.inl ⟨by rfl, ?hy27⟩) (by assumption) ?rest27
            case hy27 => (intro w hSw; (try dsimp only at hSw); go_simp; (try with_reducible rfl))
            simp only [Act.put, List.getElem_toArray, List.getElem_cons_zero, List.getElem_cons_succ, List.setIfInBounds_toArray, List.set_cons_zero, List.set_cons_succ]
            refine wpAnyH_ready (rs := [15]) (by kernel_rfl) (by simp) ?_
            refine AllReadyH.cons rfl (fun K hK => ?_) AllReadyH.nil
            simp only [List.getElem_toArray, List.getElem_cons_zero, List.getElem_cons_succ]
            go_simp
            refine hK.out _ _ (by (try dsimp only); exact hHeld.below (by first | exact (Below.refl _ _).alloc (Nat.le_refl _) _ | go_grown)) (fun hHeld => ?_)
            clear hK K
            obtain ⟨wz, hwz⟩ : ∃ q : World, q = (w3.alloc (.cells #[.int .i64 x, .int .i64 y, .int .i64 z] 44)).drew := ⟨_, rfl⟩; (have hbz : Below w3.heap.size w3 wz := by (subst hwz; exact bdn ((Below.refl _ _).alloc (Nat.le_refl _) _) _)); (have hS2 : SrcT wz (.slice (some ⟨w3.heap.size, 0, none⟩) 1 1) [(x, y, z)] := by (subst hwz; exact (Trips.boxed w3 0 44 [(x, y, z)] (Nat.zero_le _) (by simp)).src)); (have hzz : w3.heap.size < wz.heap.size := by (subst hwz; simp)); (have hI2 := HI3.out.later hbz); (have pbz := cellB hbz e1_3); (have fbz := frozenB hbz (by omega) g1_3); rw [← hwz] at hHeld ⊢; clear hwz
            refine wpAnyH_ready (rs := [16]) (by kernel_rfl) (by simp) ?_
            refine AllReadyH.cons rfl (fun K hK => ?_) AllReadyH.nil
            simp only [List.getElem_toArray, List.getElem_cons_zero, List.getElem_cons_succ]
            rw [if_pos (by rfl)]; refine wp_append_trips (.tmp 29) (.tmp 43) 29 rfl w1.heap.size 44 Tryd.underlying29 info_clue _ _ ((List.range k).map f) [(x, y, z)] rfl rfl hI2 hS2 (by rw [hlr]; simp; omega) (by omega) ?_; intro v4 w4 hI4 hg4 _
            refine hK.out _ _ (by (try dsimp only); exact hHeld.grown hg4 (fun j hj => ⟨(HON.out j hj).1, by have := (HON.out j hj).2; omega⟩)) (fun hHeld => ?_)
            clear hK K
            simp only [Act.put, List.setIfInBounds_toArray, List.set_cons_zero, List.set_cons_succ]
            have hW4 := Trips.below hI2 (Below.refl w1.heap.size wz) (by omega) hg4; have b4 := (hW4.cell (p := ⟨w.heap.size + 1, 0, none⟩) (by show w.heap.size + 1 < w1.heap.size; omega)).trans pbz; have r4 := (hW4.frozen (p := ⟨w.heap.size + 1, 0, none⟩) (by show w.heap.size + 1 < w1.heap.size; omega)).trans fbz; obtain ⟨va4, vn4, vc4, hf4⟩ := own_formT hI4; subst hf4
            refine wpAnyH_take (i := 17) (v := ?v28) rfl (by kernel_rfl) (by kernel_rfl) (by kernel_rfl) (fun _ _ _ h => h) (Or.inl ⟨by rfl, ?hy28⟩) (by assumption) ?rest28
            case hy28 => (intro w hSw; (try dsimp only at hSw); go_simp; (try with_reducible rfl))
            simp only [Act.put, List.getElem_toArray, List.getElem_cons_zero, List.getElem_cons_succ, List.setIfInBounds_toArray, List.set_cons_zero, List.set_cons_succ]
            refine wpAnyH_ready (rs := [18]) (by kernel_rfl) (by simp) ?_
            refine AllReadyH.cons rfl (fun K hK => ?_) AllReadyH.nil
            simp only [List.getElem_toArray, List.getElem_cons_zero, List.getElem_cons_succ]
            go_simp
            refine hK.out _ _ (by (try dsimp only); exact hHeld.set hne _ _) (fun hHeld => ?_)
            clear hK K
            refine wpAnyH_done (by kernel_rfl) ?_ _
            go_wp2
            go_roundw
            case rel => exact ⟨k + 1, by omega, by go_num, hHeld.only, by go_simp, va4, vn4, vc4, by go_simp, by rw [HSU.out]; exact tripsSet hI4 _ _ (by show w.heap.size + 1 < w1.heap.size; omega)⟩
            case measure => simp [intOf]; omega
          · skip
            simp only [List.getElem_toArray, List.getElem_cons_zero, List.getElem_cons_succ]
            go_simp
            (go_at_call 84; (with_reducible refine (HRC.out _).mono ?_); rintro e wa ⟨rfl, rfl⟩)
            go_wp2_with fail
            refine hK.out _ _ (by (try dsimp only); exact hHeld) (fun hHeld => ?_)
            clear hK K
            refine wpAnyH_take (i := 14) (v := ?v29) rfl (by kernel_rfl) (by kernel_rfl) (by kernel_rfl) (fun _ _ _ h => h) (Or.inl ⟨by rfl, ?hy29⟩) (by assumption) ?rest29
            case hy29 => (intro w hSw; (try dsimp only at hSw); go_simp; (try with_reducible rfl))
            simp only [Act.put, List.getElem_toArray, List.getElem_cons_zero, List.getElem_cons_succ, List.setIfInBounds_toArray, List.set_cons_zero, List.set_cons_succ]
            refine wpAnyH_ready (rs := [1, 15]) (by kernel_rfl) (by simp) ?_
            refine AllReadyH.cons rfl (fun K hK => ?_) (AllReadyH.cons rfl (fun K hK => ?_) AllReadyH.nil)
            · skip
              simp only [List.getElem_toArray, List.getElem_cons_zero, List.getElem_cons_succ]
              go_simp
              refine hK.out _ _ (by (try dsimp only); exact hHeld) (fun hHeld => ?_)
              clear hK K
              refine wpAnyH_ready (rs := [15]) (by kernel_rfl) (by simp) ?_
              refine AllReadyH.cons rfl (fun K hK => ?_) AllReadyH.nil
              simp only [List.getElem_toArray, List.getElem_cons_zero, List.getElem_cons_succ]
              go_simp
              refine hK.out _ _ (by (try dsimp only); exact hHeld.below (by first | exact (Below.refl _ _).alloc (Nat.le_refl _) _ | go_grown)) (fun hHeld => ?_)
              clear hK K
              obtain ⟨wz, hwz⟩ : ∃ q : World, q = (w3.alloc (.cells #[.int .i64 x, .int .i64 y, .int .i64 z] 44)).drew := ⟨_, rfl⟩; (have hbz : Below w3.heap.size w3 wz := by (subst hwz; exact bdn ((Below.refl _ _).alloc (Nat.le_refl _) _) _)); (have hS2 : SrcT wz (.slice (some ⟨w3.heap.size, 0, none⟩) 1 1) [(x, y, z)] := by (subst hwz; exact (Trips.boxed w3 0 44 [(x, y, z)] (Nat.zero_le _) (by simp)).src)); (have hzz : w3.heap.size < wz.heap.size := by (subst hwz; simp)); (have hI2 := HI3.out.later hbz); (have pbz := cellB hbz e1_3); (have fbz := frozenB hbz (by omega) g1_3); rw [← hwz] at hHeld ⊢; clear hwz
              refine wpAnyH_ready (rs := [16]) (by kernel_rfl) (by simp) ?_
              refine AllReadyH.cons rfl (fun K hK => ?_) AllReadyH.nil
              simp only [List.getElem_toArray, List.getElem_cons_zero, List.getElem_cons_succ]
              rw [if_pos (by rfl)]; refine wp_append_trips (.tmp 29) (.tmp 43) 29 rfl w1.heap.size 44 Tryd.underlying29 info_clue _ _ ((List.range k).map f) [(x, y, z)] rfl rfl hI2 hS2 (by rw [hlr]; simp; omega) (by omega) ?_; intro v4 w4 hI4 hg4 _
              refine hK.out _ _ (by (try dsimp only); exact hHeld.grown hg4 (fun j hj => ⟨(HON.out j hj).1, by have := (HON.out j hj).2; omega⟩)) (fun hHeld => ?_)
              clear hK K
              simp only [Act.put, List.setIfInBounds_toArray, List.set_cons_zero, List.set_cons_succ]
              have hW4 := Trips.below hI2 (Below.refl w1.heap.size wz) (by omega) hg4; have b4 := (hW4.cell (p := ⟨w.heap.size + 1, 0, none⟩) (by show w.heap.size + 1 < w1.heap.size; omega)).trans pbz; have r4 := (hW4.frozen (p := ⟨w.heap.size + 1, 0, none⟩) (by show w.heap.size + 1 < w1.heap.size; omega)).trans fbz; obtain ⟨va4, vn4, vc4, hf4⟩ := own_formT hI4; subst hf4
              refine wpAnyH_take (i := 17) (v := ?v30) rfl (by kernel_rfl) (by kernel_rfl) (by kernel_rfl) (fun _ _ _ h => h) (Or.inl ⟨by rfl, ?hy30⟩) (by assumption) ?rest30
              case hy30 => (intro w hSw; (try dsimp only at hSw); go_simp; (try with_reducible rfl))
              simp only [Act.put, List.getElem_toArray, List.getElem_cons_zero, List.getElem_cons_succ, List.setIfInBounds_toArray, List.set_cons_zero, List.set_cons_succ]
              refine wpAnyH_ready (rs := [18]) (by kernel_rfl) (by simp) ?_
              refine AllReadyH.cons rfl (fun K hK => ?_) AllReadyH.nil
              simp only [List.getElem_toArray, List.getElem_cons_zero, List.getElem_cons_succ]
              go_simp
              refine hK.out _ _ (by (try dsimp only); exact hHeld.set hne _ _) (fun hHeld => ?_)
              clear hK K
              refine wpAnyH_done (by kernel_rfl) ?_ _
              go_wp2
              go_roundw
              case rel => exact ⟨k + 1, by omega, by go_num, hHeld.only, by go_simp, va4, vn4, vc4, by go_simp, by rw [HSU.out]; exact tripsSet hI4 _ _ (by show w.heap.size + 1 < w1.heap.size; omega)⟩
              case measure => simp [intOf]; omega
            · skip
              simp only [List.getElem_toArray, List.getElem_cons_zero, List.getElem_cons_succ]
              go_simp
              refine hK.out _ _ (by (try dsimp only); exact hHeld.below (by first | exact (Below.refl _ _).alloc (Nat.le_refl _) _ | go_grown)) (fun hHeld => ?_)
              clear hK K
              obtain ⟨wz, hwz⟩ : ∃ q : World, q = (w3.alloc (.cells #[.int .i64 x, .int .i64 y, .int .i64 z] 44)).drew := ⟨_, rfl⟩; (have hbz : Below w3.heap.size w3 wz := by (subst hwz; exact bdn ((Below.refl _ _).alloc (Nat.le_refl _) _) _)); (have hS2 : SrcT wz (.slice (some ⟨w3.heap.size, 0, none⟩) 1 1) [(x, y, z)] := by (subst hwz; exact (Trips.boxed w3 0 44 [(x, y, z)] (Nat.zero_le _) (by simp)).src)); (have hzz : w3.heap.size < wz.heap.size := by (subst hwz; simp)); (have hI2 := HI3.out.later hbz); (have pbz := cellB hbz e1_3); (have fbz := frozenB hbz (by omega) g1_3); rw [← hwz] at hHeld ⊢; clear hwz
              refine wpAnyH_ready (rs := [1]) (by kernel_rfl) (by simp) ?_
              refine AllReadyH.cons rfl (fun K hK => ?_) AllReadyH.nil
              simp only [List.getElem_toArray, List.getElem_cons_zero, List.getElem_cons_succ]
              go_simp
              refine hK.out _ _ (by (try dsimp only); exact hHeld) (fun hHeld => ?_)
              clear hK K
              refine wpAnyH_ready (rs := [16]) (by kernel_rfl) (by simp) ?_
              refine AllReadyH.cons rfl (fun K hK => ?_) AllReadyH.nil
              simp only [List.getElem_toArray, List.getElem_cons_zero, List.getElem_cons_succ]
              rw [if_pos (by rfl)]; refine wp_append_trips (.tmp 29) (.tmp 43) 29 rfl w1.heap.size 44 Tryd.underlying29 info_clue _ _ ((List.range k).map f) [(x, y, z)] rfl rfl hI2 hS2 (by rw [hlr]; simp; omega) (by omega) ?_; intro v4 w4 hI4 hg4 _
              refine hK.out _ _ (by (try dsimp only); exact hHeld.grown hg4 (fun j hj => ⟨(HON.out j hj).1, by have := (HON.out j hj).2; omega⟩)) (fun hHeld => ?_)
              clear hK K
              simp only [Act.put, List.setIfInBounds_toArray, List.set_cons_zero, List.set_cons_succ]
              have hW4 := Trips.below hI2 (Below.refl w1.heap.size wz) (by omega) hg4; have b4 := (hW4.cell (p := ⟨w.heap.size + 1, 0, none⟩) (by show w.heap.size + 1 < w1.heap.size; omega)).trans pbz; have r4 := (hW4.frozen (p := ⟨w.heap.size + 1, 0, none⟩) (by show w.heap.size + 1 < w1.heap.size; omega)).trans fbz; obtain ⟨va4, vn4, vc4, hf4⟩ := own_formT hI4; subst hf4
              refine wpAnyH_take (i := 17) (v := ?v31) rfl (by kernel_rfl) (by kernel_rfl) (by kernel_rfl) (fun _ _ _ h => h) (Or.inl ⟨by rfl, ?hy31⟩) (by assumption) ?rest31
              case hy31 => (intro w hSw; (try dsimp only at hSw); go_simp; (try with_reducible rfl))
              simp only [Act.put, List.getElem_toArray, List.getElem_cons_zero, List.getElem_cons_succ, List.setIfInBounds_toArray, List.set_cons_zero, List.set_cons_succ]
              refine wpAnyH_ready (rs := [18]) (by kernel_rfl) (by simp) ?_
              refine AllReadyH.cons rfl (fun K hK => ?_) AllReadyH.nil
              simp only [List.getElem_toArray, List.getElem_cons_zero, List.getElem_cons_succ]
              go_simp
              refine hK.out _ _ (by (try dsimp only); exact hHeld.set hne _ _) (fun hHeld => ?_)
              clear hK K
              refine wpAnyH_done (by kernel_rfl) ?_ _
              go_wp2
              go_roundw
              case rel => exact ⟨k + 1, by omega, by go_num, hHeld.only, by go_simp, va4, vn4, vc4, by go_simp, by rw [HSU.out]; exact tripsSet hI4 _ _ (by show w.heap.size + 1 < w1.heap.size; omega)⟩
              case measure => simp [intOf]; omega
    · obtain rfl : k = m := by omega
      rcases HE.out with ⟨rfl, ⟨rfl, rfl⟩, hg, hts⟩ | ⟨rfl, ⟨rfl, rfl⟩, hg, hts⟩ | ⟨rfl, ⟨rfl, rfl⟩, hg⟩ | ⟨hlt2, ⟨rfl, rfl⟩, xs, hx3, hx0, hE1⟩
      · skip
        have HPd := Lib.hid (show decide (puzzleP ((List.range P.length).map f)) = true from decide_eq_true hg)
        have HT := Lib.hid (fun W (hs : SrcT W (.slice va vn vc) ((List.range P.length).map f)) => pzText_any _ ((List.range P.length).map f) W hs (by have := hg.1; omega) (puzzle_small hg))
        rw [hts] at HT
        clear hg hts
        go_wp2
        go_region_held3 (fun w' => w'.cell? ⟨w.heap.size + 1, 0, none⟩ = some (.slice va vn vc)) (go_keep)
          (first | (go_at_call 53; (refine (pzGood_any _ ((List.range P.length).map f) true _ (HI.out.src.later (by go_grown)) HPd.out).mono ?_); rintro e w5 ⟨rfl, hb5⟩; (have hB5 : Below wr.heap.size wr w5 := Below.trans (by go_grown) (hb5.mono (by first | omega | (simp; done) | (simp; omega)))); (have e0_5 := cellB hB5 d0); (have e1_5 := cellB hB5 d1); (have g0_5 := frozenB hB5 (by omega) r0); (have g1_5 := frozenB hB5 (by omega) r1); (have hz5 := hB5.size)) | (go_at_call 72; (refine (HT.out _ (HI.out.src.later (Below.trans hB5 (by go_grown)))).mono ?_); rintro e w6 ⟨rfl, hb6⟩; (have hB6 : Below wr.heap.size wr w6 := hB5.trans (Below.trans (by go_grown) (hb6.mono (by first | omega | (simp; done) | (simp; omega))))); (have e0_6 := cellB hB6 d0); (have e1_6 := cellB hB6 d1); (have g0_6 := frozenB hB6 (by omega) r0); (have g1_6 := frozenB hB6 (by omega) r1); (have hz6 := hB6.size)))
        all_goals
          go_wp2
          refine bodyPost_ret (v := .tuple #[.agg #[.slice va vn vc], .bool true]) (by simp [results, Tryd.results75, go_sem, e0_6]) rfl ⟨_, rfl, ?_, ?_⟩
          · exact (((HI.out.later hB6).inn.setC ⟨w.heap.size, 0, none⟩ _ (by show w.heap.size < w1.heap.size; omega)).wider (by omega) (by simp))
          · exact (hBw.trans (hB6.mono (by omega))).setC _ _ (Nat.le_refl _)
      · skip
        have HPd := Lib.hid (show decide (puzzleP ((List.range P.length).map f)) = true from decide_eq_true hg)
        have HT := Lib.hid (fun W (hs : SrcT W (.slice va vn vc) ((List.range P.length).map f)) => pzText_any _ ((List.range P.length).map f) W hs (by have := hg.1; omega) (puzzle_small hg))
        obtain ⟨z, hz9⟩ : ∃ z, ptextB ((List.range P.length).map f) (((List.range P.length).map f)).length = z := ⟨_, rfl⟩
        rw [hz9] at HT hts
        have hbt : (z.toList == s.toList) = false := beq_eq_false_iff_ne.2 fun e => hts (by
          rw [ByteArray.toList_eq, ByteArray.toList_eq] at e
          exact ByteArray.ext (Array.toList_inj.1 e))
        clear hg hz9
        go_wp2
        go_region_held3 (fun w' => w'.cell? ⟨w.heap.size + 1, 0, none⟩ = some (.slice va vn vc)) (go_keep)
          (first | (go_at_call 53; (refine (pzGood_any _ ((List.range P.length).map f) true _ (HI.out.src.later (by go_grown)) HPd.out).mono ?_); rintro e w5 ⟨rfl, hb5⟩; (have hB5 : Below wr.heap.size wr w5 := Below.trans (by go_grown) (hb5.mono (by first | omega | (simp; done) | (simp; omega)))); (have e0_5 := cellB hB5 d0); (have e1_5 := cellB hB5 d1); (have g0_5 := frozenB hB5 (by omega) r0); (have g1_5 := frozenB hB5 (by omega) r1); (have hz5 := hB5.size)) | (go_at_call 72; (refine (HT.out _ (HI.out.src.later (Below.trans hB5 (by go_grown)))).mono ?_); rintro e w6 ⟨rfl, hb6⟩; (have hB6 : Below wr.heap.size wr w6 := hB5.trans (Below.trans (by go_grown) (hb6.mono (by first | omega | (simp; done) | (simp; omega))))); (have e0_6 := cellB hB6 d0); (have e1_6 := cellB hB6 d1); (have g0_6 := frozenB hB6 (by omega) r0); (have g1_6 := frozenB hB6 (by omega) r1); (have hz6 := hB6.size)))
        all_goals
          go_wp2
          refine bodyPost_ret (v := .tuple #[.agg #[.slice va vn vc], .bool false]) (by simp [results, Tryd.results75, go_sem, e0_6]) rfl ⟨_, rfl, ?_, ?_⟩
          · exact (((HI.out.later hB6).inn.setC ⟨w.heap.size, 0, none⟩ _ (by show w.heap.size < w1.heap.size; omega)).wider (by omega) (by simp))
          · exact (hBw.trans (hB6.mono (by omega))).setC _ _ (Nat.le_refl _)
      · have HPd := Lib.hid (show decide (puzzleP ((List.range P.length).map f)) = false from decide_eq_false hg)
        clear hg
        go_wp2
        refine wp_region_held_drew (S := fun w' => w'.cell? ⟨w.heap.size + 1, 0, none⟩ = some (.slice va vn vc)) (by kernel_rfl) (by (try dsimp only); first | exact d1 | go_keep) (fun hHeld => ?_)
        refine wpAnyH_take (i := 0) (v := ?v32) rfl (by kernel_rfl) (by kernel_rfl) (by kernel_rfl) (fun _ _ _ h => h) (Or.inl ⟨by rfl, ?hy32⟩) (by assumption) ?rest32
        case hy32 => (intro w hSw; (try dsimp only at hSw); go_simp; (try with_reducible rfl))
        simp only [Act.put, List.getElem_toArray, List.getElem_cons_zero, List.setIfInBounds_toArray, List.set_cons_zero, List.set_cons_succ]
        refine wpAnyH_take (i := 1) (v := ?v33) rfl (by kernel_rfl) (by kernel_rfl) (by kernel_rfl) (fun _ _ _ h => h) (Or.inl ⟨by rfl, ?hy33⟩) (by assumption) ?rest33
        case hy33 => (intro w hSw; (try dsimp only at hSw); go_simp; (try with_reducible rfl))
        simp only [Act.put, List.getElem_toArray, List.getElem_cons_zero, List.getElem_cons_succ, List.setIfInBounds_toArray, List.set_cons_zero, List.set_cons_succ]
        refine wpAnyH_ready (rs := [2]) (by kernel_rfl) (by simp) ?_
        refine AllReadyH.cons rfl (fun K hK => ?_) AllReadyH.nil
        simp only [List.getElem_toArray, List.getElem_cons_zero, List.getElem_cons_succ]
        go_simp
        go_at_call 53; (refine (pzGood_any _ ((List.range P.length).map f) false _ (HI.out.src.later (by go_grown)) HPd.out).mono ?_); rintro e w5 ⟨rfl, hb5⟩; (have hB5 : Below wr.heap.size wr w5 := Below.trans (by go_grown) (hb5.mono (by first | omega | (simp; done) | (simp; omega)))); (have e0_5 := cellB hB5 d0); (have e1_5 := cellB hB5 d1); (have g0_5 := frozenB hB5 (by omega) r0); (have g1_5 := frozenB hB5 (by omega) r1); (have hz5 := hB5.size)
        go_wp2_with fail
        refine hK.out _ _ (by (try dsimp only); exact e1_5) (fun hHeld => ?_)
        clear hK K
        refine wpAnyH_take (i := 3) (v := ?v34) rfl (by kernel_rfl) (by kernel_rfl) (by kernel_rfl) (fun _ _ _ h => h) (Or.inl ⟨by rfl, ?hy34⟩) (by assumption) ?rest34
        case hy34 => (intro w hSw; (try dsimp only at hSw); go_simp; (try with_reducible rfl))
        simp only [Act.put, List.getElem_toArray, List.getElem_cons_zero, List.getElem_cons_succ, List.setIfInBounds_toArray, List.set_cons_zero, List.set_cons_succ]
        refine wpAnyH_take (i := 4) (v := undef) rfl (by kernel_rfl) (by kernel_rfl) (by kernel_rfl) (fun _ _ _ h => h) (Or.inr ⟨by rfl, rfl⟩) (by assumption) ?_
        simp only [Act.put, List.getElem_toArray, List.getElem_cons_zero, List.getElem_cons_succ, List.setIfInBounds_toArray, List.set_cons_zero, List.set_cons_succ]
        refine wpAnyH_take (i := 5) (v := undef) rfl (by kernel_rfl) (by kernel_rfl) (by kernel_rfl) (fun _ _ _ h => h) (Or.inr ⟨by rfl, rfl⟩) (by assumption) ?_
        simp only [Act.put, List.getElem_toArray, List.getElem_cons_zero, List.getElem_cons_succ, List.setIfInBounds_toArray, List.set_cons_zero, List.set_cons_succ]
        refine wpAnyH_take (i := 6) (v := undef) rfl (by kernel_rfl) (by kernel_rfl) (by kernel_rfl) (fun _ _ _ h => h) (Or.inr ⟨by rfl, rfl⟩) (by assumption) ?_
        simp only [Act.put, List.getElem_toArray, List.getElem_cons_zero, List.getElem_cons_succ, List.setIfInBounds_toArray, List.set_cons_zero, List.set_cons_succ]
        refine wpAnyH_take (i := 7) (v := undef) rfl (by kernel_rfl) (by kernel_rfl) (by kernel_rfl) (fun _ _ _ h => h) (Or.inr ⟨by rfl, rfl⟩) (by assumption) ?_
        simp only [Act.put, List.getElem_toArray, List.getElem_cons_zero, List.getElem_cons_succ, List.setIfInBounds_toArray, List.set_cons_zero, List.set_cons_succ]
        refine wpAnyH_take (i := 8) (v := ?v35) rfl (by kernel_rfl) (by kernel_rfl) (by kernel_rfl) (fun _ _ _ h => h) (Or.inl ⟨by rfl, ?hy35⟩) (by assumption) ?rest35
        case hy35 => (intro w hSw; (try dsimp only at hSw); go_simp; (try with_reducible rfl))
        simp only [Act.put, List.getElem_toArray, List.getElem_cons_zero, List.getElem_cons_succ, List.setIfInBounds_toArray, List.set_cons_zero, List.set_cons_succ]
        refine wpAnyH_ready (rs := [9]) (by kernel_rfl) (by simp) ?_
        refine AllReadyH.cons rfl (fun K hK => ?_) AllReadyH.nil
        simp only [List.getElem_toArray, List.getElem_cons_zero, List.getElem_cons_succ]
        go_simp
        refine hK.out _ _ (by (try dsimp only); first | exact hHeld | go_keep | (go_simp; done)) (fun hHeld => ?_)
        clear hK K
        refine wpAnyH_take (i := 10) (v := ?v36) rfl (by kernel_rfl) (by kernel_rfl) (by kernel_rfl) (fun _ _ _ h => h) (Or.inl ⟨by rfl, ?hy36⟩) (by assumption) ?rest36
        case hy36 => (intro w hSw; (try dsimp only at hSw); go_simp; (try with_reducible rfl))
        simp only [Act.put, List.getElem_toArray, List.getElem_cons_zero, List.getElem_cons_succ, List.setIfInBounds_toArray, List.set_cons_zero, List.set_cons_succ]
        refine wpAnyH_done (by kernel_rfl) ?_ _
        go_wp2
        refine bodyPost_ret (v := .tuple #[.agg #[.slice va vn vc], .bool false]) (by simp [results, Tryd.results75, go_sem, e0_5]) rfl ⟨_, rfl, ?_, ?_⟩
        · exact (((HI.out.later hB5).inn.setC ⟨w.heap.size, 0, none⟩ _ (by show w.heap.size < w1.heap.size; omega)).wider (by omega) (by simp))
        · exact (hBw.trans (hB5.mono (by omega))).setC _ _ (Nat.le_refl _)
      · have hcell := onlyCell HO.out (HV.out k hlt2) (by omega)
        have HE1 := Lib.hid hE1
        have HX0 := Lib.hid hx0
        have hx4 : ¬ (xs.length : Int) = 3 := by omega
        obtain ⟨t, ht⟩ : ∃ t, P.getD k ⟨#[]⟩ = t := ⟨_, rfl⟩
        rw [ht] at hcell HE1
        clear ht hE1 hx0 hx3
        go_wp2_with (first
          | (go_at_call 83; (refine (HE1.out _).mono ?_); rintro e w3 ⟨v3, rfl, hst3, hb3⟩; obtain ⟨cap3, ge, rfl, hmax3, hge1, hge2, hcc3, hff3⟩ := hst3.view HX0.out; (have e0_3 := cellB hb3 d0); (have e1_3 := cellB hb3 d1); (have g0_3 := frozenB hb3 (by omega) r0); (have g1_3 := frozenB hb3 (by omega) r1); (have hz3 := hb3.size); clear hcc3 hff3 hmax3 hst3))
        refine bodyPost_ret (v := .tuple #[.agg #[.slice none 0 0], .bool false]) (by simp [results, Tryd.results75, go_sem, e0_3]) rfl ⟨_, rfl, TripsIn.nil _ _ _ _, ?_⟩
        exact (hBw.trans (hb3.mono (by omega))).setC _ _ (Nat.le_refl _)

set_option maxHeartbeats 1000000 in
theorem pzParse_long (s : ByteArray) (w : World) (h : 100 < (s.size : Int)) : Calls Tryd.prog 75 #[.string s] w (GivesZ w [] false) := by
  go_enter Tryd.func75, Tryd.ntmps75
  go_wp2
  refine bodyPost_ret (v := .tuple #[.agg #[.slice none 0 0], .bool false]) (by simp [results, Tryd.results75, go_sem]) rfl ⟨_, rfl, TripsIn.nil _ _ _ _, by go_grown⟩

set_option maxHeartbeats 4000000 in
theorem pzParse_nil (w : World) : Calls Tryd.prog 75 #[.string ⟨#[]⟩] w (GivesZ w [] true) := by
  have hg : puzzleP [] := ⟨by simp, fun k hk => by simp at hk⟩
  have HPd := Lib.hid (show decide (puzzleP []) = true from decide_eq_true hg)
  have hsrc : ∀ W : World, SrcT W (.slice none 0 0) [] := fun W => .inl ⟨rfl, rfl⟩
  have HT := Lib.hid (fun W => pzText_any (.slice none 0 0) [] W (hsrc W) (by simp) (puzzle_small hg))
  rw [show ptextB ([] : List Tri) ([] : List Tri).length = ⟨#[]⟩ from rfl] at HT
  have HSC := Lib.hid hsrc
  clear hg hsrc
  go_enter Tryd.func75, Tryd.ntmps75
  go_wp2
  go_region_held3 (fun w' => w'.cell? ⟨w.heap.size + 1, 0, none⟩ = some (.slice none 0 0)) (go_keep)
    (first
      | (go_at_call 53; (refine (pzGood_any _ [] true _ (HSC.out _) HPd.out).mono ?_); rintro e w5 ⟨rfl, hb5⟩; (have e0_5 : w5.cell? ⟨w.heap.size, 0, none⟩ = some (.slice none 0 0) := cellB hb5 (by go_simp)); (have e1_5 : w5.cell? ⟨w.heap.size + 1, 0, none⟩ = some (.slice none 0 0) := cellB hb5 (by go_simp)); (have g0_5 : w5.frozen? ⟨w.heap.size, 0, none⟩ = false := frozenB hb5 (by simp; omega) (by go_simp)); (have hB5 : Below w.heap.size w w5 := Below.trans (by go_grown) (hb5.mono (by first | omega | (simp; done) | (simp; omega)))); (have hz5 : w.heap.size + 2 ≤ w5.heap.size := by (have := hb5.size; simp at this; omega)))
      | (go_at_call 72; (refine (HT.out _).mono ?_); rintro e w6 ⟨rfl, hb6⟩; (have hb6' : Below w5.heap.size w5 w6 := Below.trans (by go_grown) (hb6.mono (by first | omega | (simp; done) | (simp; omega)))); (have e0_6 := cellB hb6' e0_5); (have e1_6 := cellB hb6' e1_5); (have g0_6 := frozenB hb6' (by omega) g0_5); (have hB6 := hB5.trans (hb6'.mono (by omega)))))
  all_goals
    go_wp2
    refine bodyPost_ret (v := .tuple #[.agg #[.slice none 0 0], .bool true]) (by simp [results, Tryd.results75, go_sem, e0_6]) rfl ⟨_, rfl, TripsIn.nil _ _ _ _, ?_⟩
    exact hB6.setC _ _ (Nat.le_refl _)

end Go.Proofs.YtbgcbokddldmkaaDoor
