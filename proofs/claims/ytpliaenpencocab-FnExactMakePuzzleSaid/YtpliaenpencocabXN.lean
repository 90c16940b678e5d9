/- MakePuzzle: the model. -/
import Derived.Test.YtpliaenpencocabXM
namespace Go.Proofs.Ytpliaenpencocab
open Go.RowKit
set_option linter.unusedVariables false

theorem wp_append_trips {P : Program} {w : World} {o : Oper} {a : Act} {K : Act → World → Prop} {Q : Exit → Act → World → Prop} (s x : Operand) (t : TypeId)
    (ho : o.op = .call { callee := .builtin .append, args := #[s, x], argTypes := #[t, t] }) (B : Nat) (e : TypeId) (ht : P.underlying t = some (.slice e))
    (hi : (P.info? e).map (fun i => (i.zero, i.size, i.bytes)) = some (some (.agg #[.int .i64 0, .int .i64 0, .int .i64 0]), 3, 24)) (v u : Value) (xs ys : List Tri) (hs : a.eval s = v) (hu : a.eval x = u) (hI : Trips w B e v xs) (hx : SrcT w u ys)
    (hn : xs.length + ys.length ≤ 1000000000) (hB : B ≤ w.heap.size)
    (h : ∀ v' w', Trips w' B e v' (xs ++ ys) → w.grownBy w' v.ownBlock → (v'.ownBlock = v.ownBlock ∨ v'.ownBlock = some w.heap.size) → K (a.put o.dst v') w') : o.wp P a w K Q := by
  obtain ⟨v', w', hr, h2, h3, h5⟩ := run_append_trips (P := P) (w := w) t o.type B e ht hi v u xs ys hI hx hn hB
  unfold Oper.wp execOp
  simp only [ho, resolve, invoke, builtin, Sem.run_bind, Sem.run_pure, Result.andThen_ok, List.map_toArray, List.map_cons, List.map_nil, hs, hu, hr]
  exact h v' w' h2 h3 h5

theorem Trips.setC {e : TypeId} {w : World} {B : Nat} {v : Value} {xs : List Tri} (h : Trips w B e v xs) (p : Addr) (u : Value) (hp : p.block < B) : Trips (w.setCell p u) B e v xs :=
  ownsRow_setCell_below h hp u

set_option maxHeartbeats 1000000 in
theorem pzOf_line (y : Nat) (q : Int) (p s : Nat) (w : World) (h : 3 ≤ p ∧ p ≤ 14 ∧ 1 ≤ s ∧ s < p) (hy : y ≤ 10006) (hq : (y : Int) % (p : Int) = q) (hq2 : 0 ≤ q ∧ q < p) :
    Calls Try.prog 33 #[.int .i64 4, .int .i64 (y : Int), .agg #[.int .i64 (p : Int), .int .i64 (s : Int)]] w fun e w' => e = .returned (.agg #[.int .i64 4, .int .i64 q, .int .i64 ((q + s) % p)]) ∧ Below w.heap.size w w' := by
  have p1 : ¬ (p : Int) = 0 := by omega
  have p0 : ¬ p = 0 := by omega
  have hw3 : Int.tmod (y : Int) (p : Int) = q := by rw [Int.tmod_eq_emod_of_nonneg (by omega), hq]
  have hw4 : IntKind.i64.wrap q = q := by rw [IntKind.wrap_i64]; omega
  have hw6 : ((y % p : Nat) : Int) = q := by rw [← hq]; simp
  have hv := fun W => pzValue_line q p s W h hq2
  obtain ⟨r, hr⟩ : ∃ r, (q + (s : Int)) % (p : Int) = r := ⟨_, rfl⟩
  rw [hr] at hv ⊢
  have HV := Lib.hid hv
  clear hv hr
  go_enter Try.func33, Try.ntmps33
  go_wp2
  go_region_held3 (fun w' => w'.cell? ⟨w.heap.size, 0, none⟩ = some (.int .i64 (p : Int)) ∧ w'.cell? ⟨w.heap.size, 1, none⟩ = some (.int .i64 (s : Int))) (go_keep)
    (first | (go_at_call 59; (refine (HV.out _).mono ?_); rintro e w1 ⟨rfl, hb1⟩; (have d3 : w1.cell? ⟨w.heap.size, 0, none⟩ = some (.int .i64 (p : Int)) := cellB hb1 (by go_simp)); (have d4 : w1.cell? ⟨w.heap.size, 1, none⟩ = some (.int .i64 (s : Int)) := cellB hb1 (by go_simp)); (have e0 : w1.cell? ⟨w.heap.size + 1, 0, none⟩ = some (.int .i64 0) := cellB hb1 (by go_simp)); (have e1 : w1.cell? ⟨w.heap.size + 1, 1, none⟩ = some (.int .i64 0) := cellB hb1 (by go_simp)); (have e2 : w1.cell? ⟨w.heap.size + 1, 2, none⟩ = some (.int .i64 0) := cellB hb1 (by go_simp)); (have f0 : w1.frozen? ⟨w.heap.size + 1, 0, none⟩ = false := frozenB hb1 (by simp) (by go_simp)); (have f1 : w1.frozen? ⟨w.heap.size + 1, 1, none⟩ = false := frozenB hb1 (by simp) (by go_simp)); (have f2 : w1.frozen? ⟨w.heap.size + 1, 2, none⟩ = false := frozenB hb1 (by simp) (by go_simp)); (have hB1 : Below w.heap.size w w1 := Below.trans (by go_grown) (hb1.mono (by first | omega | (simp; done) | (simp; omega))))))
  go_wp2
  refine bodyPost_ret (v := .agg #[.int .i64 4, .int .i64 q, .int .i64 r]) (by simp [results, Try.results33, go_sem, e0, e1, e2]) rfl ⟨rfl, ?_⟩
  exact ((hB1.setC _ _ (by show _ ≤ w.heap.size + 1; omega)).setC _ _ (by show _ ≤ w.heap.size + 1; omega)).setC _ _ (by show _ ≤ w.heap.size + 1; omega)

set_option maxHeartbeats 1000000 in
theorem pzOf_other (k : Int) (y : Nat) (p s : Nat) (w : World) (h : 3 ≤ p ∧ p ≤ 14 ∧ 1 ≤ s ∧ s < p) (hk : 0 ≤ k ∧ k ≤ 5 ∧ k ≠ 4) :
    Calls Try.prog 33 #[.int .i64 k, .int .i64 (y : Int), .agg #[.int .i64 (p : Int), .int .i64 (s : Int)]] w fun e w' => e = .returned (.agg #[.int .i64 k, .int .i64 (valZ k p s), .int .i64 0]) ∧ Below w.heap.size w w' := by
  have hk' : (k == 4) = false := beq_eq_false_iff_ne.2 hk.2.2
  have hv := fun W => pzValue_any k 0 p s W h hk
  obtain ⟨r, hr⟩ : ∃ r, valZ k p s = r := ⟨_, rfl⟩
  rw [hr] at hv ⊢
  have HV := Lib.hid hv
  clear hv hr
  go_enter Try.func33, Try.ntmps33
  go_wp2_with (first | (go_at_call 59; (refine (HV.out _).mono ?_); rintro e w1 ⟨rfl, hb1⟩; (have e0 : w1.cell? ⟨w.heap.size + 1, 0, none⟩ = some (.int .i64 0) := cellB hb1 (by go_simp)); (have e1 : w1.cell? ⟨w.heap.size + 1, 1, none⟩ = some (.int .i64 0) := cellB hb1 (by go_simp)); (have e2 : w1.cell? ⟨w.heap.size + 1, 2, none⟩ = some (.int .i64 0) := cellB hb1 (by go_simp)); (have f0 : w1.frozen? ⟨w.heap.size + 1, 0, none⟩ = false := frozenB hb1 (by simp) (by go_simp)); (have f1 : w1.frozen? ⟨w.heap.size + 1, 1, none⟩ = false := frozenB hb1 (by simp) (by go_simp)); (have f2 : w1.frozen? ⟨w.heap.size + 1, 2, none⟩ = false := frozenB hb1 (by simp) (by go_simp)); (have hB1 : Below w.heap.size w w1 := Below.trans (by go_grown) (hb1.mono (by first | omega | (simp; done) | (simp; omega))))))
  refine bodyPost_ret (v := .agg #[.int .i64 k, .int .i64 r, .int .i64 0]) (by simp [results, Try.results33, go_sem, e0, e1, e2]) rfl ⟨rfl, ?_⟩
  exact ((hB1.setC _ _ (by show _ ≤ w.heap.size + 1; omega)).setC _ _ (by show _ ≤ w.heap.size + 1; omega)).setC _ _ (by show _ ≤ w.heap.size + 1; omega)

theorem pzOf_any (k : Int) (y : Nat) (q : Int) (p s : Nat) (w : World) (h : 3 ≤ p ∧ p ≤ 14 ∧ 1 ≤ s ∧ s < p) (hk : 0 ≤ k ∧ k ≤ 5) (hy : y ≤ 10006) (hq : (y : Int) % (p : Int) = q) (hq2 : 0 ≤ q ∧ q < p) :
    Calls Try.prog 33 #[.int .i64 k, .int .i64 (y : Int), .agg #[.int .i64 (p : Int), .int .i64 (s : Int)]] w fun e w' => e = .returned (.agg #[.int .i64 k, .int .i64 (ownA k q p s), .int .i64 (ownB k q p s)]) ∧ Below w.heap.size w w' := by
  by_cases h4 : k = 4
  · subst h4
    have := pzOf_line y q p s w h hy hq hq2
    simpa [ownA, ownB, hq2.2] using this
  · have := pzOf_other k y p s w h ⟨hk.1, hk.2, h4⟩
    simpa [ownA, ownB, h4] using this

set_option maxHeartbeats 4000000 in
theorem sMake_yes (p s n seed : Nat) (w : World) (h : 3 ≤ p ∧ p ≤ 14 ∧ 1 ≤ s ∧ s < p) (hn : n ≤ 6) (hs : seed ≤ 9999) :
    Calls Try.prog 7 #[.agg #[.int .i64 (p : Int), .int .i64 (s : Int)], .int .i64 (n : Int), .int .i64 (seed : Int)] w (GivesZ w (madeL p s seed n) true) := by
  have HH := Lib.hid (show decide (hidP (p : Int) (s : Int)) = true from decide_eq_true (by unfold hidP; omega))
  have N6 : 0 ≤ (n : Int) ∧ (n : Int) ≤ 6 := by omega
  have S6 : 0 ≤ (seed : Int) ∧ (seed : Int) ≤ 9999 := by omega
  have HN6 := Lib.hid N6
  have HS6 := Lib.hid S6
  clear N6 S6
  go_enter Try.func7, Try.ntmps7
  go_wp2_with (first
    | (go_at_call 30; (with_reducible refine (pzHidden_any (p : Int) (s : Int) true _ HH.out).mono ?_); rintro e w1 ⟨rfl, hb1⟩; (have c0 : w1.cell? ⟨w.heap.size, 0, none⟩ = some (.int .i64 (p : Int)) := cellB hb1 (by go_simp)); (have c1 : w1.cell? ⟨w.heap.size, 1, none⟩ = some (.int .i64 (s : Int)) := cellB hb1 (by go_simp)); (have c2 : w1.cell? ⟨w.heap.size + 1, 0, none⟩ = some (.slice none 0 0) := cellB hb1 (by go_simp)); (have f2 : w1.frozen? ⟨w.heap.size + 1, 0, none⟩ = false := frozenB hb1 (by simp) (by go_simp)); (have hB1 : Below w.heap.size w w1 := Below.trans (by go_grown) (hb1.mono (by first | omega | (simp; done) | (simp; omega)))); have hz1 := hB1.size; (have hzz : w.heap.size + 1 < w1.heap.size := by have := hb1.size; simp at this; omega))
    | (go_at_call 31; (with_reducible refine (l1In_yes (n : Int) 0 6 _ HN6.out).mono ?_); rintro e w2 ⟨rfl, rfl⟩)
    | (go_at_call 31; (with_reducible refine (l1In_yes (seed : Int) 0 9999 _ HS6.out).mono ?_); rintro e w3 ⟨rfl, rfl⟩))
  go_loopw [1, 9] (fun c z wr => ∃ j m : Nat, j + m ≤ n ∧ n ≤ j + m ∧ c = .int .i64 (m : Int) ∧ z = .int .i64 ((zAt seed (2 * j) : Nat) : Int) ∧ Hid (∃ v, wr.cell? ⟨w1.heap.size, 0, none⟩ = some v ∧ wr.frozen? ⟨w1.heap.size, 0, none⟩ = false ∧ Trips wr (w1.heap.size + 1) 58 v (madeL p s seed j)) ∧ Hid (Below w1.heap.size w1 wr)) (fun c _ _ => (intOf c).toNat)
  case atStart => exact ⟨0, n, by omega, by omega, rfl, rfl, Lib.hid ⟨.slice none 0 0, by go_simp, by go_simp, World.ownsRow_nil _ _ _ _⟩, Lib.hid (by go_grown)⟩
  case round =>
    obtain ⟨j, m, hj1, hj2, rfl, hzv, HI, HB⟩ := hrel
    obtain ⟨v, hbox, hfbox, hT⟩ := HI.out
    have hz := HB.out.size
    have hzb : w1.heap.size < wr.heap.size := World.block_lt_of_cell? wr _ hbox
    by_cases hlt : 0 < m
    · have z0 := zAt_le seed (2 * j) (by omega)
      have z1 := zAt_le seed (2 * j + 1) (by omega)
      have hk := kindZ_le seed j
      have hq := lineZ_le p seed j (by omega)
      have HM : Hid (madeL p s seed (j + 1) = madeL p s seed j ++ [(kindZ seed j, ownA (kindZ seed j) (lineZ p seed j) p s, ownB (kindZ seed j) (lineZ p seed j) p s)]) := Lib.hid (by unfold madeL; rw [← map_rangeZ]; rfl)
      have hke : kindZ seed j = ((zAt seed (2 * j + 1) : Nat) : Int) % 6 := by unfold kindZ; omega
      have hqe : lineZ p seed j = ((zAt seed (2 * j + 2) : Nat) : Int) % (p : Int) := by unfold lineZ; simp
      have hx1 : nextZ (zAt seed (2 * j)) = zAt seed (2 * j + 1) := rfl
      have hx2 : nextZ (zAt seed (2 * j + 1)) = zAt seed (2 * (j + 1)) := rfl
      have hx3 : zAt seed (2 * j + 2) = zAt seed (2 * (j + 1)) := rfl
      have z2 := zAt_le seed (2 * (j + 1)) (by omega)
      rw [hx3] at hqe
      obtain ⟨y0, hy0⟩ : ∃ y, zAt seed (2 * j) = y := ⟨_, rfl⟩
      obtain ⟨y1, hy1⟩ : ∃ y, zAt seed (2 * j + 1) = y := ⟨_, rfl⟩
      obtain ⟨y2, hy2⟩ : ∃ y, zAt seed (2 * (j + 1)) = y := ⟨_, rfl⟩
      rw [hy0] at hzv z0 hx1
      rw [hy1] at z1 hke hx1 hx2
      rw [hy2] at z2 hqe hx2
      subst hzv
      obtain ⟨kd, hkd⟩ : ∃ kd, kindZ seed j = kd := ⟨_, rfl⟩
      obtain ⟨ln, hln⟩ : ∃ ln, lineZ p seed j = ln := ⟨_, rfl⟩
      rw [hkd] at hk hke HM
      rw [hln] at hq hqe HM
      have hw1 : Int.tmod (y1 : Int) 6 = kd := by rw [Int.tmod_eq_emod_of_nonneg (by omega), hke]
      have hw2 : IntKind.i64.wrap kd = kd := by rw [IntKind.wrap_i64]; omega
      have hw3 : IntKind.i64.wrap ((m : Int) - 1) = ((m - 1 : Nat) : Int) := by rw [IntKind.wrap_i64]; omega
      have hv := fun W => pzOf_any kd y2 ln p s W h hk z2 hqe.symm hq
      obtain ⟨oa, hoa⟩ : ∃ oa, ownA kd ln p s = oa := ⟨_, rfl⟩
      obtain ⟨ob, hob⟩ : ∃ ob, ownB kd ln p s = ob := ⟨_, rfl⟩
      rw [hoa, hob] at hv HM
      have HV := Lib.hid hv
      have HX1 := Lib.hid hx1
      have HX2 := Lib.hid hx2
      have HY2 := Lib.hid hy2
      have d0 := cellB HB.out c0
      have d1 := cellB HB.out c1
      have hml := madeL_length p s seed j
      have m1 : 0 < (m : Int) := by omega
      obtain ⟨va, vn, vc, hform⟩ := own_formT hT
      subst hform
      have HT := Lib.hid hT
      have hon : ∀ k, (Value.slice va vn vc).ownBlock = some k → w1.heap.size + 1 ≤ k := fun k hk => (hT.own k hk).1
      have HON := Lib.hid hon
      clear hv hx1 hx2 hy0 hy1 hy2 hkd hln hoa hob hke hqe hx3 hT hon HI
      go_wp2_with (first
        | (go_at_call 32; (with_reducible refine (pzNext_any y0 _ z0).mono ?_); rw [HX1.out]; rintro e w2 ⟨rfl, rfl⟩)
        | (go_at_call 32; (with_reducible refine (pzNext_any y1 _ z1).mono ?_); rw [HX2.out]; rintro e w2 ⟨rfl, rfl⟩))
      refine wp_region_held_drew (S := fun w' => Below w1.heap.size w1 w') (by kernel_rfl) (by (try dsimp only); exact HB.out.trans (by go_grown)) (fun hHeld => ?_)
      refine wpAnyH_take (i := 0) (v := ?v125) rfl (by kernel_rfl) (by kernel_rfl) (by kernel_rfl) (fun _ _ _ h => h) (Or.inl ⟨by rfl, ?hy125⟩) (by assumption) ?rest125
      case hy125 => (intro w hSw; (try dsimp only at hSw); go_simp; (try with_reducible rfl))
      simp only [Act.put, List.getElem_toArray, List.getElem_cons_zero, List.setIfInBounds_toArray, List.set_cons_zero, List.set_cons_succ]
      refine wpAnyH_take (i := 2) (v := ?v126) rfl (by kernel_rfl) (by kernel_rfl) (by kernel_rfl) (fun _ _ _ h => h) (Or.inl ⟨by rfl, ?hy126⟩) (by assumption) ?rest126
      case hy126 => (intro w hSw; (try dsimp only at hSw); go_simp; (try with_reducible rfl))
      simp only [Act.put, List.getElem_toArray, List.getElem_cons_zero, List.getElem_cons_succ, List.setIfInBounds_toArray, List.set_cons_zero, List.set_cons_succ]
      refine wpAnyH_take (i := 3) (v := ?v127) rfl (by kernel_rfl) (by kernel_rfl) (by kernel_rfl) (fun _ _ _ h => h) (Or.inl ⟨by rfl, ?hy127⟩) (by assumption) ?rest127
      case hy127 => (intro w hSw; (try dsimp only at hSw); go_simp; (try with_reducible rfl))
      simp only [Act.put, List.getElem_toArray, List.getElem_cons_zero, List.getElem_cons_succ, List.setIfInBounds_toArray, List.set_cons_zero, List.set_cons_succ]
      refine wpAnyH_take (i := 4) (v := ?v128) rfl (by kernel_rfl) (by kernel_rfl) (by kernel_rfl) (fun _ _ _ h => h) (Or.inl ⟨by rfl, ?hy128⟩) (by assumption) ?rest128
      case hy128 => (intro w hSw; (try dsimp only at hSw); have e0 := cellB hSw c0; have e1 := cellB hSw c1; go_simp; (try with_reducible rfl))
      simp only [Act.put, List.getElem_toArray, List.getElem_cons_zero, List.getElem_cons_succ, List.setIfInBounds_toArray, List.set_cons_zero, List.set_cons_succ]
      refine wpAnyH_ready (rs := [1, 5]) (by kernel_rfl) (by simp) ?_
      refine AllReadyH.cons rfl (fun K hK => ?_) (AllReadyH.cons rfl (fun K hK => ?_) AllReadyH.nil)
      · skip
        simp only [List.getElem_toArray, List.getElem_cons_zero, List.getElem_cons_succ]
        go_simp
        refine hK.out _ _ (by (try dsimp only); exact HB.out.trans (by go_grown)) (fun hHeld => ?_)
        clear hK K
        refine wpAnyH_ready (rs := [5]) (by kernel_rfl) (by simp) ?_
        refine AllReadyH.cons rfl (fun K hK => ?_) AllReadyH.nil
        simp only [List.getElem_toArray, List.getElem_cons_zero, List.getElem_cons_succ]
        go_simp
        (go_at_call 33; (refine (HV.out _).mono ?_); rintro e w2 ⟨rfl, hb2⟩)
        go_wp2_with fail
        refine hK.out _ _ (by (try dsimp only); exact HB.out.trans (Below.mono (show Below wr.heap.size wr w2 from Below.trans (by go_grown) (hb2.mono (by first | (simp; done) | (simp; omega)))) (by omega))) (fun hHeld => ?_)
        clear hK K
        (have hw2 : Below wr.heap.size wr w2 := (show Below wr.heap.size wr w2 from Below.trans (by go_grown) (hb2.mono (by first | (simp; done) | (simp; omega))))); have hHw := hHeld; have hbx := cellB hw2 hbox
        refine wpAnyH_ready (rs := [6]) (by kernel_rfl) (by simp) ?_
        refine AllReadyH.cons rfl (fun K hK => ?_) AllReadyH.nil
        simp only [List.getElem_toArray, List.getElem_cons_zero, List.getElem_cons_succ]
        go_simp
        refine hK.out _ _ (by (try dsimp only); exact hHw.alloc hHw.size _) (fun hHeld => ?_)
        clear hK K
        have hz2 := hw2.size; have hI2 := (HT.out.later hw2).later ((Below.refl _ _).alloc (Nat.le_refl _) (.cells ((flatT [(kd, oa, ob)]).map (Value.int .i64)).toArray 58)); have hS2 := (Trips.boxed w2 (w1.heap.size + 1) 58 [(kd, oa, ob)] (by omega) (by simp)).src; have hWb : Below (w1.heap.size + 1) wr (w2.alloc (.cells ((flatT [(kd, oa, ob)]).map (Value.int .i64)).toArray 58)) := (hw2.mono (by omega)).alloc (by omega) _
        refine wpAnyH_ready (rs := [7]) (by kernel_rfl) (by simp) ?_
        refine AllReadyH.cons rfl (fun K hK => ?_) AllReadyH.nil
        simp only [List.getElem_toArray, List.getElem_cons_zero, List.getElem_cons_succ]
        rw [if_pos (by rfl)]; refine wp_append_trips (.tmp 37) (.tmp 42) 24 rfl (w1.heap.size + 1) 58 Try.underlying24 info_clue _ _ (madeL p s seed j) [(kd, oa, ob)] rfl rfl hI2 hS2 (by simp; omega) (by simp; omega) ?_; intro v3 w3 hI3 hg3 _
        refine hK.out _ _ (by (try dsimp only); exact (Trips.below hI2 hWb (by simp; omega) hg3).mono (by omega) |> HB.out.trans) (fun hHeld => ?_)
        clear hK K
        simp only [Act.put, List.setIfInBounds_toArray, List.set_cons_zero, List.set_cons_succ]
        have hW3 := Trips.below hI2 hWb (by simp; omega) hg3; have b3 := (hW3.cell (p := ⟨w1.heap.size, 0, none⟩) (Nat.lt_succ_self _)).trans hbox; have r3 := (hW3.frozen (p := ⟨w1.heap.size, 0, none⟩) (Nat.lt_succ_self _)).trans hfbox; obtain ⟨va3, vn3, vc3, hf3⟩ := own_formT hI3; subst hf3
        refine wpAnyH_take (i := 8) (v := ?v129) rfl (by kernel_rfl) (by kernel_rfl) (by kernel_rfl) (fun _ _ _ h => h) (Or.inl ⟨by rfl, ?hy129⟩) (by assumption) ?rest129
        case hy129 => (intro w hSw; (try dsimp only at hSw); go_simp; (try with_reducible rfl))
        simp only [Act.put, List.getElem_toArray, List.getElem_cons_zero, List.getElem_cons_succ, List.setIfInBounds_toArray, List.set_cons_zero, List.set_cons_succ]
        refine wpAnyH_ready (rs := [9]) (by kernel_rfl) (by simp) ?_
        refine AllReadyH.cons rfl (fun K hK => ?_) AllReadyH.nil
        simp only [List.getElem_toArray, List.getElem_cons_zero, List.getElem_cons_succ]
        go_simp
        refine hK.out _ _ (by (try dsimp only); exact hHeld.setC ⟨w1.heap.size, 0, none⟩ (.slice va3 vn3 vc3) (Nat.le_refl _)) (fun hHeld => ?_)
        clear hK K
        refine wpAnyH_done (by kernel_rfl) ?_ _
        go_wp2
        go_roundw
        case rel => exact ⟨j + 1, m - 1, by omega, by omega, rfl, by rw [HY2.out], Lib.hid ⟨.slice va3 vn3 vc3, by go_simp, by go_simp, by rw [HM.out]; exact hI3.setC _ _ (Nat.lt_succ_self _)⟩, Lib.hid hHeld⟩
        case measure => simp [intOf]; omega
      · skip
        simp only [List.getElem_toArray, List.getElem_cons_zero, List.getElem_cons_succ]
        go_simp
        (go_at_call 33; (refine (HV.out _).mono ?_); rintro e w2 ⟨rfl, hb2⟩)
        go_wp2_with fail
        refine hK.out _ _ (by (try dsimp only); exact HB.out.trans (Below.mono (show Below wr.heap.size wr w2 from Below.trans (by go_grown) (hb2.mono (by first | (simp; done) | (simp; omega)))) (by omega))) (fun hHeld => ?_)
        clear hK K
        (have hw2 : Below wr.heap.size wr w2 := (show Below wr.heap.size wr w2 from Below.trans (by go_grown) (hb2.mono (by first | (simp; done) | (simp; omega))))); have hHw := hHeld; have hbx := cellB hw2 hbox
        refine wpAnyH_ready (rs := [1, 6]) (by kernel_rfl) (by simp) ?_
        refine AllReadyH.cons rfl (fun K hK => ?_) (AllReadyH.cons rfl (fun K hK => ?_) AllReadyH.nil)
        · skip
          simp only [List.getElem_toArray, List.getElem_cons_zero, List.getElem_cons_succ]
          go_simp
          refine hK.out _ _ (by (try dsimp only); exact hHeld) (fun hHeld => ?_)
          clear hK K
          refine wpAnyH_ready (rs := [6]) (by kernel_rfl) (by simp) ?_
          refine AllReadyH.cons rfl (fun K hK => ?_) AllReadyH.nil
          simp only [List.getElem_toArray, List.getElem_cons_zero, List.getElem_cons_succ]
          go_simp
          refine hK.out _ _ (by (try dsimp only); exact hHw.alloc hHw.size _) (fun hHeld => ?_)
          clear hK K
          have hz2 := hw2.size; have hI2 := (HT.out.later hw2).later ((Below.refl _ _).alloc (Nat.le_refl _) (.cells ((flatT [(kd, oa, ob)]).map (Value.int .i64)).toArray 58)); have hS2 := (Trips.boxed w2 (w1.heap.size + 1) 58 [(kd, oa, ob)] (by omega) (by simp)).src; have hWb : Below (w1.heap.size + 1) wr (w2.alloc (.cells ((flatT [(kd, oa, ob)]).map (Value.int .i64)).toArray 58)) := (hw2.mono (by omega)).alloc (by omega) _
          refine wpAnyH_ready (rs := [7]) (by kernel_rfl) (by simp) ?_
          refine AllReadyH.cons rfl (fun K hK => ?_) AllReadyH.nil
          simp only [List.getElem_toArray, List.getElem_cons_zero, List.getElem_cons_succ]
          rw [if_pos (by rfl)]; refine wp_append_trips (.tmp 37) (.tmp 42) 24 rfl (w1.heap.size + 1) 58 Try.underlying24 info_clue _ _ (madeL p s seed j) [(kd, oa, ob)] rfl rfl hI2 hS2 (by simp; omega) (by simp; omega) ?_; intro v3 w3 hI3 hg3 _
          refine hK.out _ _ (by (try dsimp only); exact (Trips.below hI2 hWb (by simp; omega) hg3).mono (by omega) |> HB.out.trans) (fun hHeld => ?_)
          clear hK K
          simp only [Act.put, List.setIfInBounds_toArray, List.set_cons_zero, List.set_cons_succ]
          have hW3 := Trips.below hI2 hWb (by simp; omega) hg3; have b3 := (hW3.cell (p := ⟨w1.heap.size, 0, none⟩) (Nat.lt_succ_self _)).trans hbox; have r3 := (hW3.frozen (p := ⟨w1.heap.size, 0, none⟩) (Nat.lt_succ_self _)).trans hfbox; obtain ⟨va3, vn3, vc3, hf3⟩ := own_formT hI3; subst hf3
          refine wpAnyH_take (i := 8) (v := ?v130) rfl (by kernel_rfl) (by kernel_rfl) (by kernel_rfl) (fun _ _ _ h => h) (Or.inl ⟨by rfl, ?hy130⟩) (by assumption) ?rest130
          case hy130 => (intro w hSw; (try dsimp only at hSw); go_simp; (try with_reducible rfl))
          simp only [Act.put, List.getElem_toArray, List.getElem_cons_zero, List.getElem_cons_succ, List.setIfInBounds_toArray, List.set_cons_zero, List.set_cons_succ]
          refine wpAnyH_ready (rs := [9]) (by kernel_rfl) (by simp) ?_
          refine AllReadyH.cons rfl (fun K hK => ?_) AllReadyH.nil
          simp only [List.getElem_toArray, List.getElem_cons_zero, List.getElem_cons_succ]
          go_simp
          refine hK.out _ _ (by (try dsimp only); exact hHeld.setC ⟨w1.heap.size, 0, none⟩ (.slice va3 vn3 vc3) (Nat.le_refl _)) (fun hHeld => ?_)
          clear hK K
          refine wpAnyH_done (by kernel_rfl) ?_ _
          go_wp2
          go_roundw
          case rel => exact ⟨j + 1, m - 1, by omega, by omega, rfl, by rw [HY2.out], Lib.hid ⟨.slice va3 vn3 vc3, by go_simp, by go_simp, by rw [HM.out]; exact hI3.setC _ _ (Nat.lt_succ_self _)⟩, Lib.hid hHeld⟩
          case measure => simp [intOf]; omega
        · skip
          simp only [List.getElem_toArray, List.getElem_cons_zero, List.getElem_cons_succ]
          go_simp
          refine hK.out _ _ (by (try dsimp only); exact hHw.alloc hHw.size _) (fun hHeld => ?_)
          clear hK K
          have hbx2 := cellB ((Below.refl w2.heap.size w2).alloc (Nat.le_refl _) (.cells #[Value.int .i64 kd, Value.int .i64 oa, Value.int .i64 ob] 58)) hbx
          refine wpAnyH_ready (rs := [1]) (by kernel_rfl) (by simp) ?_
          refine AllReadyH.cons rfl (fun K hK => ?_) AllReadyH.nil
          simp only [List.getElem_toArray, List.getElem_cons_zero, List.getElem_cons_succ]
          go_simp
          refine hK.out _ _ (by (try dsimp only); exact hHeld) (fun hHeld => ?_)
          clear hK K
          have hz2 := hw2.size; have hI2 := (HT.out.later hw2).later ((Below.refl _ _).alloc (Nat.le_refl _) (.cells ((flatT [(kd, oa, ob)]).map (Value.int .i64)).toArray 58)); have hS2 := (Trips.boxed w2 (w1.heap.size + 1) 58 [(kd, oa, ob)] (by omega) (by simp)).src; have hWb : Below (w1.heap.size + 1) wr (w2.alloc (.cells ((flatT [(kd, oa, ob)]).map (Value.int .i64)).toArray 58)) := (hw2.mono (by omega)).alloc (by omega) _
          refine wpAnyH_ready (rs := [7]) (by kernel_rfl) (by simp) ?_
          refine AllReadyH.cons rfl (fun K hK => ?_) AllReadyH.nil
          simp only [List.getElem_toArray, List.getElem_cons_zero, List.getElem_cons_succ]
          rw [if_pos (by rfl)]; refine wp_append_trips (.tmp 37) (.tmp 42) 24 rfl (w1.heap.size + 1) 58 Try.underlying24 info_clue _ _ (madeL p s seed j) [(kd, oa, ob)] rfl rfl hI2 hS2 (by simp; omega) (by simp; omega) ?_; intro v3 w3 hI3 hg3 _
          refine hK.out _ _ (by (try dsimp only); exact (Trips.below hI2 hWb (by simp; omega) hg3).mono (by omega) |> HB.out.trans) (fun hHeld => ?_)
          clear hK K
          simp only [Act.put, List.setIfInBounds_toArray, List.set_cons_zero, List.set_cons_succ]
          have hW3 := Trips.below hI2 hWb (by simp; omega) hg3; have b3 := (hW3.cell (p := ⟨w1.heap.size, 0, none⟩) (Nat.lt_succ_self _)).trans hbox; have r3 := (hW3.frozen (p := ⟨w1.heap.size, 0, none⟩) (Nat.lt_succ_self _)).trans hfbox; obtain ⟨va3, vn3, vc3, hf3⟩ := own_formT hI3; subst hf3
          refine wpAnyH_take (i := 8) (v := ?v131) rfl (by kernel_rfl) (by kernel_rfl) (by kernel_rfl) (fun _ _ _ h => h) (Or.inl ⟨by rfl, ?hy131⟩) (by assumption) ?rest131
          case hy131 => (intro w hSw; (try dsimp only at hSw); go_simp; (try with_reducible rfl))
          simp only [Act.put, List.getElem_toArray, List.getElem_cons_zero, List.getElem_cons_succ, List.setIfInBounds_toArray, List.set_cons_zero, List.set_cons_succ]
          refine wpAnyH_ready (rs := [9]) (by kernel_rfl) (by simp) ?_
          refine AllReadyH.cons rfl (fun K hK => ?_) AllReadyH.nil
          simp only [List.getElem_toArray, List.getElem_cons_zero, List.getElem_cons_succ]
          go_simp
          refine hK.out _ _ (by (try dsimp only); exact hHeld.setC ⟨w1.heap.size, 0, none⟩ (.slice va3 vn3 vc3) (Nat.le_refl _)) (fun hHeld => ?_)
          clear hK K
          refine wpAnyH_done (by kernel_rfl) ?_ _
          go_wp2
          go_roundw
          case rel => exact ⟨j + 1, m - 1, by omega, by omega, rfl, by rw [HY2.out], Lib.hid ⟨.slice va3 vn3 vc3, by go_simp, by go_simp, by rw [HM.out]; exact hI3.setC _ _ (Nat.lt_succ_self _)⟩, Lib.hid hHeld⟩
          case measure => simp [intOf]; omega
    · obtain rfl : m = 0 := by omega
      obtain rfl : j = n := by omega
      have h0 : ¬ (0 : Int) < ((0 : Nat) : Int) := by omega
      obtain ⟨va, vn, vc, hform⟩ := own_formT hT
      subst hform
      have e2 := cellB HB.out c2
      have r2 := frozenB HB.out (by omega) f2
      go_wp2
      refine bodyPost_ret (v := .tuple #[.agg #[.slice va vn vc], .bool true]) (by simp [results, Try.results7, go_sem, e2]) rfl ⟨_, rfl, ?_, ?_⟩
      · have h9 := hT.mono (B' := w.heap.size + 2) (by omega)
        exact ((h9.inn.setC _ _ (by show w.heap.size + 1 < _; omega)).wider (by omega) (by simp))
      · exact (hB1.trans (HB.out.mono hz1)).setC _ _ (by show _ ≤ w.heap.size + 1; omega)

end Go.Proofs.Ytpliaenpencocab
