/- A clue is taken out: both sides. -/
import Derived.Test.YtbgcbokddldmkaaDoorXP
namespace Go.Proofs.YtbgcbokddldmkaaDoor
open Go.RowKit
set_option linter.unusedVariables false

theorem srcT_takeAt {w : World} {b off n cap c k : Nat} {xs : List Tri} (h : SrcT w (.slice (some ⟨b, off, none⟩) n cap) xs) (hk : k ≤ xs.length) (hc : k ≤ c) (hcc : c ≤ cap) : SrcT w (.slice (some ⟨b, off, none⟩) k c) (xs.take k) := by
  rcases h with ⟨h, _⟩ | ⟨b', off', c0, hv, hm, hm2, hcl⟩
  · cases h
  · cases hv
    have hl : (xs.take k).length = k := by simp; omega
    refine .inr ⟨b, off, c, by rw [hl], by omega, by omega, fun i hi => ?_⟩
    rw [getD_take _ _ _ _ (by omega)]
    exact hcl i (by omega)

/-- 'list[k:]' as the walk writes it: behind the whole capacity the address stays. -/
theorem srcT_drop_if {w : World} {b off n cap k : Nat} {xs : List Tri} (h : SrcT w (.slice (some ⟨b, off, none⟩) n cap) xs) (hk : k ≤ xs.length) :
    SrcT w (.slice (if cap = k then some ⟨b, off, none⟩ else some ⟨b, off + k * 3, none⟩) (xs.length - k) (cap - k)) (xs.drop k) := by
  rcases h with ⟨h, _⟩ | ⟨b', off', c, hv, hm, hm2, hcl⟩
  · cases h
  · cases hv
    have hl : (xs.drop k).length = xs.length - k := by simp
    by_cases e : cap = k
    · rw [if_pos e]
      exact .inr ⟨b, off, cap - k, by rw [hl], by omega, by omega, fun i hi => by rw [hl] at hi; omega⟩
    · rw [if_neg e]
      refine .inr ⟨b, off + k * 3, cap - k, by rw [hl], by omega, by omega, fun i hi => ?_⟩
      have := hcl (k + i) (by omega)
      rw [getD_drop]
      rw [show off + k * 3 + i * 3 = off + (k + i) * 3 by omega]
      exact this

set_option maxHeartbeats 800000 in
theorem iWithout_any (u : Value) (xs : List Tri) (k : Nat) (w : World) (hx : SrcT w u xs) (hk : k < xs.length) (hl : xs.length ≤ 1000000) :
    Calls Tryd.prog 63 #[u, .int .i64 k] w (fun e w' => ∃ v, e = .returned v ∧ TripsIn 44 w' w.heap.size w'.heap.size v (outZ xs k) ∧ Below w.heap.size w w') := by
  obtain ⟨a0, cap, g, off, rfl, ha, hcap, hcm, _⟩ := hx.form
  obtain rfl := ha (by omega)
  unfold maxLen at hcm
  have HS := Lib.hid hx
  clear hx
  have hk0 : 0 ≤ (k : Int) := by omega
  have hk1 : (k : Int) ≤ (cap : Int) := by omega
  have hk2 : (k : Int) + 1 ≤ (xs.length : Int) := by omega
  have hk3 : (xs.length : Int) ≤ (cap : Int) := by omega
  obtain ⟨k1, hk5⟩ : ∃ k1, k1 = k + 1 := ⟨_, rfl⟩
  have hwk : IntKind.i64.wrap ((k : Int) + 1) = (k1 : Int) := by rw [IntKind.wrap_i64]; omega
  have hk6 : (k1 : Int) ≤ (xs.length : Int) := by omega
  have HK5 := Lib.hid hk5
  unfold outZ
  rw [← hk5]
  clear hk5
  go_enter Tryd.func63, Tryd.ntmps63
  go_wp2
  have hlf : ([xs.take k, xs.drop k1] : List (List Tri)).flatten.length ≤ 1000000 := by have := HK5.out; simp; omega

  refine wp_region_held_drew (S := fun w' => Below w.heap.size w w') (by kernel_rfl) (by (try dsimp only); go_grown) (fun hHeld => ?_)
  refine wpAnyH_take (i := 0) (v := ?v1) rfl (by kernel_rfl) (by kernel_rfl) (by kernel_rfl) (fun _ _ _ h => h) (Or.inl ⟨by rfl, ?hy1⟩) (by assumption) ?rest1
  case hy1 => (intro w hSw; (try dsimp only at hSw); go_simp; (try with_reducible rfl))
  simp only [Act.put, List.getElem_toArray, List.getElem_cons_zero, List.setIfInBounds_toArray, List.set_cons_zero, List.set_cons_succ]
  refine wpAnyH_take (i := 1) (v := ?v2) rfl (by kernel_rfl) (by kernel_rfl) (by kernel_rfl) (fun _ _ _ h => h) (Or.inl ⟨by rfl, ?hy2⟩) (by assumption) ?rest2
  case hy2 => (intro w hSw; (try dsimp only at hSw); go_simp; (try with_reducible rfl))
  simp only [Act.put, List.getElem_toArray, List.getElem_cons_zero, List.getElem_cons_succ, List.setIfInBounds_toArray, List.set_cons_zero, List.set_cons_succ]
  refine wpAnyH_take (i := 2) (v := ?v3) rfl (by kernel_rfl) (by kernel_rfl) (by kernel_rfl) (fun _ _ _ h => h) (Or.inl ⟨by rfl, ?hy3⟩) (by assumption) ?rest3
  case hy3 => (intro w hSw; (try dsimp only at hSw); go_simp; (try with_reducible rfl))
  simp only [Act.put, List.getElem_toArray, List.getElem_cons_zero, List.getElem_cons_succ, List.setIfInBounds_toArray, List.set_cons_zero, List.set_cons_succ]
  refine wpAnyH_take (i := 3) (v := ?v4) rfl (by kernel_rfl) (by kernel_rfl) (by kernel_rfl) (fun _ _ _ h => h) (Or.inl ⟨by rfl, ?hy4⟩) (by assumption) ?rest4
  case hy4 => (intro w hSw; (try dsimp only at hSw); go_simp; (try with_reducible rfl))
  simp only [Act.put, List.getElem_toArray, List.getElem_cons_zero, List.getElem_cons_succ, List.setIfInBounds_toArray, List.set_cons_zero, List.set_cons_succ]
  refine wpAnyH_take (i := 4) (v := ?v5) rfl (by kernel_rfl) (by kernel_rfl) (by kernel_rfl) (fun _ _ _ h => h) (Or.inl ⟨by rfl, ?hy5⟩) (by assumption) ?rest5
  case hy5 => (intro w hSw; (try dsimp only at hSw); go_simp; (try with_reducible rfl))
  simp only [Act.put, List.getElem_toArray, List.getElem_cons_zero, List.getElem_cons_succ, List.setIfInBounds_toArray, List.set_cons_zero, List.set_cons_succ]
  refine wpAnyH_take (i := 5) (v := ?v6) rfl (by kernel_rfl) (by kernel_rfl) (by kernel_rfl) (fun _ _ _ h => h) (Or.inl ⟨by rfl, ?hy6⟩) (by assumption) ?rest6
  case hy6 => (intro w hSw; (try dsimp only at hSw); go_simp; (try with_reducible rfl))
  simp only [Act.put, List.getElem_toArray, List.getElem_cons_zero, List.getElem_cons_succ, List.setIfInBounds_toArray, List.set_cons_zero, List.set_cons_succ]
  refine wpAnyH_take (i := 6) (v := ?v7) rfl (by kernel_rfl) (by kernel_rfl) (by kernel_rfl) (fun _ _ _ h => h) (Or.inl ⟨by rfl, ?hy7⟩) (by assumption) ?rest7
  case hy7 => (intro w hSw; (try dsimp only at hSw); go_simp; (try with_reducible rfl))
  simp only [Act.put, List.getElem_toArray, List.getElem_cons_zero, List.getElem_cons_succ, List.setIfInBounds_toArray, List.set_cons_zero, List.set_cons_succ]
  refine wpAnyH_take (i := 7) (v := ?v8) rfl (by kernel_rfl) (by kernel_rfl) (by kernel_rfl) (fun _ _ _ h => h) (Or.inl ⟨by rfl, ?hy8⟩) (by assumption) ?rest8
  case hy8 => (intro w hSw; (try dsimp only at hSw); go_simp; (try with_reducible rfl))
  simp only [Act.put, List.getElem_toArray, List.getElem_cons_zero, List.getElem_cons_succ, List.setIfInBounds_toArray, List.set_cons_zero, List.set_cons_succ]
  refine wpAnyH_ready (rs := [8]) (by kernel_rfl) (by simp) ?_
  refine AllReadyH.cons rfl (fun K hK => ?_) AllReadyH.nil
  simp only [List.getElem_toArray, List.getElem_cons_zero, List.getElem_cons_succ]
  go_simp
  refine hK.out _ _ (by (try dsimp only); go_grown) (fun hHeld => ?_)
  clear hK K
  refine wpAnyH_ready (rs := [9]) (by kernel_rfl) (by simp) ?_
  refine AllReadyH.cons rfl (fun K hK => ?_) AllReadyH.nil
  simp only [List.getElem_toArray, List.getElem_cons_zero, List.getElem_cons_succ]
  go_simp
  go_at_call 103; refine (concatT_any w.heap.size 2 [(.slice (some ⟨g, off, none⟩) k k), (.slice (if cap = k1 then some ⟨g, off, none⟩ else some ⟨g, off + k1 * 3, none⟩) (xs.length - k1) (cap - k1))] [xs.take k, xs.drop k1] _ rfl (by omega) (cellsT_of (cs := #[(.slice (some ⟨g, off, none⟩) k k), (.slice (if cap = k1 then some ⟨g, off, none⟩ else some ⟨g, off + k1 * 3, none⟩) (xs.length - k1) (cap - k1))]) (t := 29) (fr := (0, 0)) (by exact heap_alloc_new w _)) ?_ hlf).mono ?_; · intro i hi; match i, hi with | 0, _ => exact srcT_takeAt (xs := xs) (k := k) (HS.out.later hHeld) (by omega) (Nat.le_refl _) (by omega) | 1, _ => exact srcT_drop_if (xs := xs) (k := k1) (HS.out.later hHeld) (by omega)
  rintro e w2 ⟨v2, rfl, hI2, hb2⟩
  dsimp only
  refine hK.out _ _ (by (try dsimp only); exact hHeld.trans (hb2.mono hHeld.size)) (fun hHeld => ?_)
  clear hK K
  refine wpAnyH_take (i := 10) (v := ?v9) rfl (by kernel_rfl) (by kernel_rfl) (by kernel_rfl) (fun _ _ _ h => h) (Or.inl ⟨by rfl, ?hy9⟩) (by assumption) ?rest9
  case hy9 => (intro w hSw; (try dsimp only at hSw); go_simp; (try with_reducible rfl))
  simp only [Act.put, List.getElem_toArray, List.getElem_cons_zero, List.getElem_cons_succ, List.setIfInBounds_toArray, List.set_cons_zero, List.set_cons_succ]
  refine wpAnyH_done (by kernel_rfl) ?_ _
  go_wp2
  all_goals
    go_ret
    refine ⟨v2, rfl, TripsIn.wider (T := w2.heap.size) (B := w.heap.size) ?_ (Nat.le_refl _) (Nat.le_refl _), hHeld⟩
    have e : ([xs.take k, xs.drop k1] : List (List Tri)).flatten = xs.take k ++ xs.drop k1 := by simp
    rw [← e]
    exact hI2.wider (by simp) (Nat.le_refl _)

set_option maxHeartbeats 800000 in
theorem pzWithout_any (u : Value) (xs : List Tri) (k : Nat) (w : World) (hx : SrcT w u xs) (hk : k < xs.length) (hl : xs.length ≤ 1000000) :
    Calls Tryd.prog 55 #[u, .int .i64 k] w (fun e w' => ∃ v, e = .returned v ∧ TripsIn 44 w' w.heap.size w'.heap.size v (outZ xs k) ∧ Below w.heap.size w w') := by
  obtain ⟨a0, cap, g, off, rfl, ha, hcap, hcm, _⟩ := hx.form
  obtain rfl := ha (by omega)
  unfold maxLen at hcm
  have HS := Lib.hid hx
  clear hx
  have hk0 : 0 ≤ (k : Int) := by omega
  have hk1 : (k : Int) ≤ (cap : Int) := by omega
  have hk2 : (k : Int) + 1 ≤ (xs.length : Int) := by omega
  have hk3 : (xs.length : Int) ≤ (cap : Int) := by omega
  obtain ⟨k1, hk5⟩ : ∃ k1, k1 = k + 1 := ⟨_, rfl⟩
  have hwk : IntKind.i64.wrap ((k : Int) + 1) = (k1 : Int) := by rw [IntKind.wrap_i64]; omega
  have hk6 : (k1 : Int) ≤ (xs.length : Int) := by omega
  have HK5 := Lib.hid hk5
  unfold outZ
  rw [← hk5]
  clear hk5
  go_enter Tryd.func55, Tryd.ntmps55
  go_wp2

  refine wp_region_held_drew (S := fun w' => Below w.heap.size w w') (by kernel_rfl) (by (try dsimp only); go_grown) (fun hHeld => ?_)
  refine wpAnyH_take (i := 1) (v := ?v10) rfl (by kernel_rfl) (by kernel_rfl) (by kernel_rfl) (fun _ _ _ h => h) (Or.inl ⟨by rfl, ?hy10⟩) (by assumption) ?rest10
  case hy10 => (intro w hSw; (try dsimp only at hSw); go_simp; (try with_reducible rfl))
  simp only [Act.put, List.getElem_toArray, List.getElem_cons_zero, List.getElem_cons_succ, List.setIfInBounds_toArray, List.set_cons_zero, List.set_cons_succ]
  refine wpAnyH_take (i := 2) (v := ?v11) rfl (by kernel_rfl) (by kernel_rfl) (by kernel_rfl) (fun _ _ _ h => h) (Or.inl ⟨by rfl, ?hy11⟩) (by assumption) ?rest11
  case hy11 => (intro w hSw; (try dsimp only at hSw); go_simp; (try with_reducible rfl))
  simp only [Act.put, List.getElem_toArray, List.getElem_cons_zero, List.getElem_cons_succ, List.setIfInBounds_toArray, List.set_cons_zero, List.set_cons_succ]
  refine wpAnyH_take (i := 3) (v := ?v12) rfl (by kernel_rfl) (by kernel_rfl) (by kernel_rfl) (fun _ _ _ h => h) (Or.inl ⟨by rfl, ?hy12⟩) (by assumption) ?rest12
  case hy12 => (intro w hSw; (try dsimp only at hSw); go_simp; (try with_reducible rfl))
  simp only [Act.put, List.getElem_toArray, List.getElem_cons_zero, List.getElem_cons_succ, List.setIfInBounds_toArray, List.set_cons_zero, List.set_cons_succ]
  refine wpAnyH_take (i := 5) (v := ?v13) rfl (by kernel_rfl) (by kernel_rfl) (by kernel_rfl) (fun _ _ _ h => h) (Or.inl ⟨by rfl, ?hy13⟩) (by assumption) ?rest13
  case hy13 => (intro w hSw; (try dsimp only at hSw); go_simp; (try with_reducible rfl))
  simp only [Act.put, List.getElem_toArray, List.getElem_cons_zero, List.getElem_cons_succ, List.setIfInBounds_toArray, List.set_cons_zero, List.set_cons_succ]
  refine wpAnyH_take (i := 6) (v := ?v14) rfl (by kernel_rfl) (by kernel_rfl) (by kernel_rfl) (fun _ _ _ h => h) (Or.inl ⟨by rfl, ?hy14⟩) (by assumption) ?rest14
  case hy14 => (intro w hSw; (try dsimp only at hSw); go_simp; (try with_reducible rfl))
  simp only [Act.put, List.getElem_toArray, List.getElem_cons_zero, List.getElem_cons_succ, List.setIfInBounds_toArray, List.set_cons_zero, List.set_cons_succ]
  refine wpAnyH_take (i := 7) (v := ?v15) rfl (by kernel_rfl) (by kernel_rfl) (by kernel_rfl) (fun _ _ _ h => h) (Or.inl ⟨by rfl, ?hy15⟩) (by assumption) ?rest15
  case hy15 => (intro w hSw; (try dsimp only at hSw); go_simp; (try with_reducible rfl))
  simp only [Act.put, List.getElem_toArray, List.getElem_cons_zero, List.getElem_cons_succ, List.setIfInBounds_toArray, List.set_cons_zero, List.set_cons_succ]
  refine wpAnyH_take (i := 8) (v := ?v16) rfl (by kernel_rfl) (by kernel_rfl) (by kernel_rfl) (fun _ _ _ h => h) (Or.inl ⟨by rfl, ?hy16⟩) (by assumption) ?rest16
  case hy16 => (intro w hSw; (try dsimp only at hSw); go_simp; (try with_reducible rfl))
  simp only [Act.put, List.getElem_toArray, List.getElem_cons_zero, List.getElem_cons_succ, List.setIfInBounds_toArray, List.set_cons_zero, List.set_cons_succ]
  refine wpAnyH_ready (rs := [0]) (by kernel_rfl) (by simp) ?_
  refine AllReadyH.cons rfl (fun K hK => ?_) AllReadyH.nil
  simp only [List.getElem_toArray, List.getElem_cons_zero]
  go_simp
  refine hK.out _ _ (by (try dsimp only); go_grown) (fun hHeld => ?_)
  clear hK K
  have hI0 := Lib.hid (Trips.boxed w.drew w.heap.size 44 [] (Nat.le_refl _) (by simp))
  refine wpAnyH_ready (rs := [4]) (by kernel_rfl) (by simp) ?_
  refine AllReadyH.cons rfl (fun K hK => ?_) AllReadyH.nil
  simp only [List.getElem_toArray, List.getElem_cons_zero, List.getElem_cons_succ]
  rw [if_pos (by rfl)]; refine wp_append_trips (.tmp 5) (.tmp 8) 29 rfl w.heap.size 44 Tryd.underlying29 info_clue (.slice (some ⟨w.heap.size, 0, none⟩) 0 0) (.slice (some ⟨g, off, none⟩) k cap) [] (xs.take k) rfl rfl hI0.out (srcT_takeAt (xs := xs) (k := k) (HS.out.later hHeld) (by omega) (by omega) (Nat.le_refl _)) (by simp; omega) hHeld.size ?_; intro v2 w2 hI2 hg2 _
  refine hK.out _ _ (by (try dsimp only); exact Trips.below hI0.out hHeld hHeld.size hg2) (fun hHeld => ?_)
  clear hK K
  simp only [Act.put, List.setIfInBounds_toArray, List.set_cons_zero, List.set_cons_succ]
  refine wpAnyH_ready (rs := [9]) (by kernel_rfl) (by simp) ?_
  refine AllReadyH.cons rfl (fun K hK => ?_) AllReadyH.nil
  simp only [List.getElem_toArray, List.getElem_cons_zero, List.getElem_cons_succ]
  rw [if_pos (by rfl)]; refine wp_append_trips (.tmp 9) (.tmp 13) 29 rfl w.heap.size 44 Tryd.underlying29 info_clue v2 _ ([] ++ xs.take k) (xs.drop k1) rfl rfl hI2 (srcT_drop_if (xs := xs) (k := k1) (HS.out.later hHeld) (by omega)) (by simp; omega) hHeld.size ?_; intro v3 w3 hI3 hg3 _
  refine hK.out _ _ (by (try dsimp only); exact Trips.below hI2 hHeld hHeld.size hg3) (fun hHeld => ?_)
  clear hK K
  simp only [Act.put, List.setIfInBounds_toArray, List.set_cons_zero, List.set_cons_succ]
  refine wpAnyH_take (i := 10) (v := ?v17) rfl (by kernel_rfl) (by kernel_rfl) (by kernel_rfl) (fun _ _ _ h => h) (Or.inl ⟨by rfl, ?hy17⟩) (by assumption) ?rest17
  case hy17 => (intro w hSw; (try dsimp only at hSw); go_simp; (try with_reducible rfl))
  simp only [Act.put, List.getElem_toArray, List.getElem_cons_zero, List.getElem_cons_succ, List.setIfInBounds_toArray, List.set_cons_zero, List.set_cons_succ]
  refine wpAnyH_done (by kernel_rfl) ?_ _
  go_wp2
  all_goals
    go_ret
    refine ⟨v3, rfl, ⟨?_, fun b hb => (hI3.own b hb).2⟩, hHeld⟩
    have := hI3
    rwa [List.nil_append] at this

end Go.Proofs.YtbgcbokddldmkaaDoor
