/- A chord is dropped. -/
import Derived.Test.YtenkokkhdcjcaaaKA
import Derived.Test.YtenkokkhdcjcaaaP6
import Derived.Test.YtenkokkhdcjcaaaKC
namespace Go.Proofs.Ytenkokkhdcjcaaa
open Go.RowKit
set_option linter.unusedVariables false

set_option maxHeartbeats 600000 in
theorem sDropChord_yes (p : Int) (u : Value) (xs : List (Int × Int)) (k : Nat) (B T : Nat) (w : World) (h : PairsIn 50 w B T u xs) (hT : T ≤ w.heap.size) (hg : goodC p xs) (hk : k < xs.length) :
    Calls Try.prog 37 #[.int .i64 p, u, .int .i64 k] w (Gives (PairsIn 50) w (xs.take k ++ xs.drop (k + 1)) true) := by
  have hl := hg.2.1
  have HH := Lib.hid h
  have HG := Lib.hid hg
  have hS := h.1.src
  obtain ⟨hlen, ⟨rfl, hn0⟩ | ⟨g, cap, cur, rfl, hB0, hg0, hncap, hcm, _, _⟩⟩ := h.1
  · omega
  unfold maxLen at hcm
  have HS := Lib.hid hS
  clear h hg hS hlen hg0
  have hk0 : 0 ≤ (k : Int) := by omega
  have hk1 : (k : Int) ≤ (cap : Int) := by omega
  have hk2 : (k : Int) + 1 ≤ (xs.length : Int) := by omega
  have hk3 : (xs.length : Int) ≤ (cap : Int) := by omega
  have hk4 : (k : Int) ≤ (xs.length : Int) - 1 := by omega
  obtain ⟨k1, hk5⟩ : ∃ k1, k1 = k + 1 := ⟨_, rfl⟩
  have hwk : IntKind.i64.wrap ((k : Int) + 1) = (k1 : Int) := by rw [IntKind.wrap_i64]; omega
  have hk6 : (k1 : Int) ≤ (xs.length : Int) := by omega
  have HK5 := Lib.hid hk5
  rw [← hk5]
  clear hk5
  go_enter Try.func37, Try.ntmps37
  go_wp2_with (first | (go_at_call 52; (with_reducible refine (cdGood_yes p _ xs B T _ HH.out HG.out).mono ?_); rintro e w1 ⟨rfl, hb1⟩; have hz1 := hb1.size; have HS1 := Lib.hid (HS.out.later hb1)) | (go_at_call 62; (with_reducible refine (l1In_yes _ 0 _ _ ⟨by omega, by omega⟩).mono ?_); rintro e w2 ⟨rfl, rfl⟩))

  refine wp_region_held_drew (S := fun w' => Below w1.heap.size w1 w') (by kernel_rfl) (by (try dsimp only); go_grown) (fun hHeld => ?_)
  refine wpAnyH_take (i := 1) (v := ?v1) rfl (by kernel_rfl) (by kernel_rfl) (by kernel_rfl) (fun _ _ _ h => h) (Or.inl ⟨by rfl, ?hy1⟩) (by assumption) ?rest1
  case hy1 => (intro w hSw; (try dsimp only at hSw); go_simp; (try with_reducible rfl))
  simp only [Act.put, List.getElem_toArray, List.getElem_cons_zero, List.getElem_cons_succ, List.setIfInBounds_toArray, List.set_cons_zero, List.set_cons_succ]
  refine wpAnyH_take (i := 2) (v := ?v2) rfl (by kernel_rfl) (by kernel_rfl) (by kernel_rfl) (fun _ _ _ h => h) (Or.inl ⟨by rfl, ?hy2⟩) (by assumption) ?rest2
  case hy2 => (intro w hSw; (try dsimp only at hSw); go_simp; (try with_reducible rfl))
  simp only [Act.put, List.getElem_toArray, List.getElem_cons_zero, List.getElem_cons_succ, List.setIfInBounds_toArray, List.set_cons_zero, List.set_cons_succ]
  refine wpAnyH_take (i := 3) (v := ?v3) rfl (by kernel_rfl) (by kernel_rfl) (by kernel_rfl) (fun _ _ _ h => h) (Or.inl ⟨by rfl, ?hy3⟩) (by assumption) ?rest3
  case hy3 => (intro w hSw; (try dsimp only at hSw); go_simp; (try with_reducible rfl))
  simp only [Act.put, List.getElem_toArray, List.getElem_cons_zero, List.getElem_cons_succ, List.setIfInBounds_toArray, List.set_cons_zero, List.set_cons_succ]
  refine wpAnyH_take (i := 5) (v := ?v4) rfl (by kernel_rfl) (by kernel_rfl) (by kernel_rfl) (fun _ _ _ h => h) (Or.inl ⟨by rfl, ?hy4⟩) (by assumption) ?rest4
  case hy4 => (intro w hSw; (try dsimp only at hSw); go_simp; (try with_reducible rfl))
  simp only [Act.put, List.getElem_toArray, List.getElem_cons_zero, List.getElem_cons_succ, List.setIfInBounds_toArray, List.set_cons_zero, List.set_cons_succ]
  refine wpAnyH_take (i := 6) (v := ?v5) rfl (by kernel_rfl) (by kernel_rfl) (by kernel_rfl) (fun _ _ _ h => h) (Or.inl ⟨by rfl, ?hy5⟩) (by assumption) ?rest5
  case hy5 => (intro w hSw; (try dsimp only at hSw); go_simp; (try with_reducible rfl))
  simp only [Act.put, List.getElem_toArray, List.getElem_cons_zero, List.getElem_cons_succ, List.setIfInBounds_toArray, List.set_cons_zero, List.set_cons_succ]
  refine wpAnyH_take (i := 7) (v := ?v6) rfl (by kernel_rfl) (by kernel_rfl) (by kernel_rfl) (fun _ _ _ h => h) (Or.inl ⟨by rfl, ?hy6⟩) (by assumption) ?rest6
  case hy6 => (intro w hSw; (try dsimp only at hSw); go_simp; (try with_reducible rfl))
  simp only [Act.put, List.getElem_toArray, List.getElem_cons_zero, List.getElem_cons_succ, List.setIfInBounds_toArray, List.set_cons_zero, List.set_cons_succ]
  refine wpAnyH_take (i := 8) (v := ?v7) rfl (by kernel_rfl) (by kernel_rfl) (by kernel_rfl) (fun _ _ _ h => h) (Or.inl ⟨by rfl, ?hy7⟩) (by assumption) ?rest7
  case hy7 => (intro w hSw; (try dsimp only at hSw); go_simp; (try with_reducible rfl))
  simp only [Act.put, List.getElem_toArray, List.getElem_cons_zero, List.getElem_cons_succ, List.setIfInBounds_toArray, List.set_cons_zero, List.set_cons_succ]
  refine wpAnyH_ready (rs := [0]) (by kernel_rfl) (by simp) ?_
  refine AllReadyH.cons rfl (fun K hK => ?_) AllReadyH.nil
  simp only [List.getElem_toArray, List.getElem_cons_zero]
  go_simp
  refine hK.out _ _ (by (try dsimp only); go_grown) (fun hHeld => ?_)
  clear hK K
  have hI0 := Lib.hid (Pairs.boxed w1.drew w1.heap.size 50 [] (Nat.le_refl _) (by simp))
  refine wpAnyH_ready (rs := [4]) (by kernel_rfl) (by simp) ?_
  refine AllReadyH.cons rfl (fun K hK => ?_) AllReadyH.nil
  simp only [List.getElem_toArray, List.getElem_cons_zero, List.getElem_cons_succ]
  rw [if_pos (by rfl)]; refine wp_append_pairs (.tmp 20) (.tmp 23) 25 rfl w1.heap.size 50 Try.underlying25 info_chord (.slice (some ⟨w1.heap.size, 0, none⟩) 0 0) (.slice (some ⟨g, 0, none⟩) k cap) [] (xs.take k) rfl rfl hI0.out (src_take (xs := xs) (k := k) (HS1.out.later hHeld) (by omega)) (by simp; omega) hHeld.size ?_; intro v2 w2 hI2 hg2 _
  refine hK.out _ _ (by (try dsimp only); exact Pairs.below hI0.out hHeld hHeld.size hg2) (fun hHeld => ?_)
  clear hK K
  simp only [Act.put, List.setIfInBounds_toArray, List.set_cons_zero, List.set_cons_succ]
  refine wpAnyH_ready (rs := [9]) (by kernel_rfl) (by simp) ?_
  refine AllReadyH.cons rfl (fun K hK => ?_) AllReadyH.nil
  simp only [List.getElem_toArray, List.getElem_cons_zero, List.getElem_cons_succ]
  rw [if_pos (by rfl)]; refine wp_append_pairs (.tmp 24) (.tmp 28) 25 rfl w1.heap.size 50 Try.underlying25 info_chord v2 _ ([] ++ xs.take k) (xs.drop k1) rfl rfl hI2 (src_drop_if (xs := xs) (k := k1) (HS1.out.later hHeld) (by omega) (by omega)) (by simp; omega) hHeld.size ?_; intro v3 w3 hI3 hg3 _
  refine hK.out _ _ (by (try dsimp only); exact Pairs.below hI2 hHeld hHeld.size hg3) (fun hHeld => ?_)
  clear hK K
  simp only [Act.put, List.setIfInBounds_toArray, List.set_cons_zero, List.set_cons_succ]
  refine wpAnyH_take (i := 10) (v := ?v8) rfl (by kernel_rfl) (by kernel_rfl) (by kernel_rfl) (fun _ _ _ h => h) (Or.inl ⟨by rfl, ?hy8⟩) (by assumption) ?rest8
  case hy8 => (intro w hSw; (try dsimp only at hSw); go_simp; (try with_reducible rfl))
  simp only [Act.put, List.getElem_toArray, List.getElem_cons_zero, List.getElem_cons_succ, List.setIfInBounds_toArray, List.set_cons_zero, List.set_cons_succ]
  refine wpAnyH_take (i := 11) (v := ?v9) rfl (by kernel_rfl) (by kernel_rfl) (by kernel_rfl) (fun _ _ _ h => h) (Or.inl ⟨by rfl, ?hy9⟩) (by assumption) ?rest9
  case hy9 => (intro w hSw; (try dsimp only at hSw); go_simp; (try with_reducible rfl))
  simp only [Act.put, List.getElem_toArray, List.getElem_cons_zero, List.getElem_cons_succ, List.setIfInBounds_toArray, List.set_cons_zero, List.set_cons_succ]
  refine wpAnyH_done (by kernel_rfl) ?_ _
  go_wp2
  all_goals
    go_ret2
    refine ⟨v3, rfl, ⟨?_, fun b hb => (hI3.own b hb).2⟩, hb1.trans (hHeld.mono hz1)⟩
    have := hI3.mono hz1
    rwa [List.nil_append] at this


set_option maxHeartbeats 800000 in
theorem iDropChord_yes (p : Int) (u : Value) (xs : List (Int × Int)) (k : Nat) (B T : Nat) (w : World) (h : PairsIn 50 w B T u xs) (hT : T ≤ w.heap.size) (hg : goodC p xs) (hk : k < xs.length) :
    Calls Try.prog 38 #[.int .i64 p, u, .int .i64 k] w (Gives (PairsIn 50) w (xs.take k ++ xs.drop (k + 1)) true) := by
  have hl := hg.2.1
  have HH := Lib.hid h
  have HG := Lib.hid hg
  have hS := h.1.src
  obtain ⟨hlen, ⟨rfl, hn0⟩ | ⟨g, cap, cur, rfl, hB0, hg0, hncap, hcm, _, _⟩⟩ := h.1
  · omega
  unfold maxLen at hcm
  have HS := Lib.hid hS
  clear h hg hS hlen hg0
  have hk0 : 0 ≤ (k : Int) := by omega
  have hkn : ¬ (k : Int) < 0 := by omega
  have hkl : (k : Int) < (xs.length : Int) := by omega
  have hk1 : (k : Int) ≤ (cap : Int) := by omega
  have hk2 : (k : Int) + 1 ≤ (xs.length : Int) := by omega
  have hk3 : (xs.length : Int) ≤ (cap : Int) := by omega
  obtain ⟨k1, hk5⟩ : ∃ k1, k1 = k + 1 := ⟨_, rfl⟩
  have hwk : IntKind.i64.wrap ((k : Int) + 1) = (k1 : Int) := by rw [IntKind.wrap_i64]; omega
  have hk6 : (k1 : Int) ≤ (xs.length : Int) := by omega
  have HK5 := Lib.hid hk5
  rw [← hk5]
  clear hk5
  go_enter Try.func38, Try.ntmps38
  go_wp2_with (first | (go_at_call 18; (with_reducible refine (AreChords_yes p _ xs B T _ HH.out HG.out).mono ?_); rintro e w1 ⟨rfl, hb1⟩; have hz1 := hb1.size; have HS1 := Lib.hid (HS.out.later hb1)))
  have hlf : ([xs.take k, xs.drop k1] : List (List (Int × Int))).flatten.length ≤ 1000000 := by simp; omega

  refine wp_region_held_drew (S := fun w' => Below w1.heap.size w1 w') (by kernel_rfl) (by (try dsimp only); go_grown) (fun hHeld => ?_)
  refine wpAnyH_take (i := 0) (v := ?v10) rfl (by kernel_rfl) (by kernel_rfl) (by kernel_rfl) (fun _ _ _ h => h) (Or.inl ⟨by rfl, ?hy10⟩) (by assumption) ?rest10
  case hy10 => (intro w hSw; (try dsimp only at hSw); go_simp; (try with_reducible rfl))
  simp only [Act.put, List.getElem_toArray, List.getElem_cons_zero, List.setIfInBounds_toArray, List.set_cons_zero, List.set_cons_succ]
  refine wpAnyH_take (i := 1) (v := ?v11) rfl (by kernel_rfl) (by kernel_rfl) (by kernel_rfl) (fun _ _ _ h => h) (Or.inl ⟨by rfl, ?hy11⟩) (by assumption) ?rest11
  case hy11 => (intro w hSw; (try dsimp only at hSw); go_simp; (try with_reducible rfl))
  simp only [Act.put, List.getElem_toArray, List.getElem_cons_zero, List.getElem_cons_succ, List.setIfInBounds_toArray, List.set_cons_zero, List.set_cons_succ]
  refine wpAnyH_take (i := 2) (v := ?v12) rfl (by kernel_rfl) (by kernel_rfl) (by kernel_rfl) (fun _ _ _ h => h) (Or.inl ⟨by rfl, ?hy12⟩) (by assumption) ?rest12
  case hy12 => (intro w hSw; (try dsimp only at hSw); go_simp; (try with_reducible rfl))
  simp only [Act.put, List.getElem_toArray, List.getElem_cons_zero, List.getElem_cons_succ, List.setIfInBounds_toArray, List.set_cons_zero, List.set_cons_succ]
  refine wpAnyH_take (i := 3) (v := ?v13) rfl (by kernel_rfl) (by kernel_rfl) (by kernel_rfl) (fun _ _ _ h => h) (Or.inl ⟨by rfl, ?hy13⟩) (by assumption) ?rest13
  case hy13 => (intro w hSw; (try dsimp only at hSw); go_simp; (try with_reducible rfl))
  simp only [Act.put, List.getElem_toArray, List.getElem_cons_zero, List.getElem_cons_succ, List.setIfInBounds_toArray, List.set_cons_zero, List.set_cons_succ]
  refine wpAnyH_take (i := 4) (v := ?v14) rfl (by kernel_rfl) (by kernel_rfl) (by kernel_rfl) (fun _ _ _ h => h) (Or.inl ⟨by rfl, ?hy14⟩) (by assumption) ?rest14
  case hy14 => (intro w hSw; (try dsimp only at hSw); go_simp; (try with_reducible rfl))
  simp only [Act.put, List.getElem_toArray, List.getElem_cons_zero, List.getElem_cons_succ, List.setIfInBounds_toArray, List.set_cons_zero, List.set_cons_succ]
  refine wpAnyH_take (i := 5) (v := ?v15) rfl (by kernel_rfl) (by kernel_rfl) (by kernel_rfl) (fun _ _ _ h => h) (Or.inl ⟨by rfl, ?hy15⟩) (by assumption) ?rest15
  case hy15 => (intro w hSw; (try dsimp only at hSw); go_simp; (try with_reducible rfl))
  simp only [Act.put, List.getElem_toArray, List.getElem_cons_zero, List.getElem_cons_succ, List.setIfInBounds_toArray, List.set_cons_zero, List.set_cons_succ]
  refine wpAnyH_take (i := 6) (v := ?v16) rfl (by kernel_rfl) (by kernel_rfl) (by kernel_rfl) (fun _ _ _ h => h) (Or.inl ⟨by rfl, ?hy16⟩) (by assumption) ?rest16
  case hy16 => (intro w hSw; (try dsimp only at hSw); go_simp; (try with_reducible rfl))
  simp only [Act.put, List.getElem_toArray, List.getElem_cons_zero, List.getElem_cons_succ, List.setIfInBounds_toArray, List.set_cons_zero, List.set_cons_succ]
  refine wpAnyH_ready (rs := [7]) (by kernel_rfl) (by simp) ?_
  refine AllReadyH.cons rfl (fun K hK => ?_) AllReadyH.nil
  simp only [List.getElem_toArray, List.getElem_cons_zero, List.getElem_cons_succ]
  go_simp
  refine hK.out _ _ (by (try dsimp only); go_grown) (fun hHeld => ?_)
  clear hK K
  refine wpAnyH_ready (rs := [8]) (by kernel_rfl) (by simp) ?_
  refine AllReadyH.cons rfl (fun K hK => ?_) AllReadyH.nil
  simp only [List.getElem_toArray, List.getElem_cons_zero, List.getElem_cons_succ]
  go_simp
  go_at_call 63; refine (concat_any w1.heap.size 2 [(.slice (some ⟨g, 0, none⟩) k cap), (.slice (if cap = k1 then some ⟨g, 0, none⟩ else some ⟨g, k1 * 2, none⟩) (xs.length - k1) (cap - k1))] [xs.take k, xs.drop k1] _ rfl (by omega) (cells_of (cs := #[(.slice (some ⟨g, 0, none⟩) k cap), (.slice (if cap = k1 then some ⟨g, 0, none⟩ else some ⟨g, k1 * 2, none⟩) (xs.length - k1) (cap - k1))]) (t := 25) (fr := (0, 0)) (by exact heap_alloc_new w1 _)) ?_ hlf).mono ?_; · intro i hi; match i, hi with | 0, _ => exact src_take (xs := xs) (k := k) (HS1.out.later hHeld) (by omega) | 1, _ => exact src_drop_if (xs := xs) (k := k1) (HS1.out.later hHeld) (by omega) (by omega)
  rintro e w2 ⟨v2, rfl, hI2, hb2⟩
  dsimp only
  refine hK.out _ _ (by (try dsimp only); exact hHeld.trans (hb2.mono hHeld.size)) (fun hHeld => ?_)
  clear hK K
  refine wpAnyH_take (i := 9) (v := ?v17) rfl (by kernel_rfl) (by kernel_rfl) (by kernel_rfl) (fun _ _ _ h => h) (Or.inl ⟨by rfl, ?hy17⟩) (by assumption) ?rest17
  case hy17 => (intro w hSw; (try dsimp only at hSw); go_simp; (try with_reducible rfl))
  simp only [Act.put, List.getElem_toArray, List.getElem_cons_zero, List.getElem_cons_succ, List.setIfInBounds_toArray, List.set_cons_zero, List.set_cons_succ]
  refine wpAnyH_take (i := 10) (v := ?v18) rfl (by kernel_rfl) (by kernel_rfl) (by kernel_rfl) (fun _ _ _ h => h) (Or.inl ⟨by rfl, ?hy18⟩) (by assumption) ?rest18
  case hy18 => (intro w hSw; (try dsimp only at hSw); go_simp; (try with_reducible rfl))
  simp only [Act.put, List.getElem_toArray, List.getElem_cons_zero, List.getElem_cons_succ, List.setIfInBounds_toArray, List.set_cons_zero, List.set_cons_succ]
  refine wpAnyH_done (by kernel_rfl) ?_ _
  go_wp2
  all_goals
    go_ret2
    refine ⟨v2, rfl, PairsIn.wider (T := w2.heap.size) (B := w1.heap.size) ?_ hz1 (Nat.le_refl _), hb1.trans (hHeld.mono hz1)⟩
    have e : ([xs.take k, xs.drop k1] : List (List (Int × Int))).flatten = xs.take k ++ xs.drop k1 := by simp
    rw [← e]
    exact hI2.wider (by simp) (Nat.le_refl _)

end Go.Proofs.Ytenkokkhdcjcaaa
