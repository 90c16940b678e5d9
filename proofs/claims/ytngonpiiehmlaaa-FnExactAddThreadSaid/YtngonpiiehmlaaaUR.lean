/- A chord is added: the program. -/
import Derived.Test.YtngonpiiehmlaaaUS
namespace Go.Proofs.Ytngonpiiehmlaaa
open Go.RowKit
set_option linter.unusedVariables false

theorem heap_alloc_last_at (W : World) (o1 o2 : Obj) : ((W.alloc o1).alloc o2).heap[W.heap.size + 1]? = some o2 := heap_alloc2_new W o1 o2


set_option maxHeartbeats 1000000 in
theorem iAddThread_some (g cap : Nat) (xs : List (Int × Int)) (c d : Int) (B T : Nat) (w : World) (h : PairsIn 37 w B T (.slice (some ⟨g, 0, none⟩) xs.length cap) xs) (hT : T ≤ w.heap.size) (hlc : xs.length ≤ cap) (hg : goodT xs) (hc : isT c d) (hl : xs.length < 30) (ht : thereAt xs c d = false) :
    Calls Try.prog 45 #[.slice (some ⟨g, 0, none⟩) xs.length cap, .agg #[.int .i64 c, .int .i64 d]] w (Gives (PairsIn 37) w (putAt xs c d) true) := by
  have HG := Lib.hid hg
  have HC := Lib.hid hc
  have HTH := Lib.hid ht
  have HS := Lib.hid h.1.src
  have hml := headC_le (c, d) xs
  have hpa : ∀ m, m = headC (c, d) xs → xs.take m ++ [(c, d)] ++ xs.drop m = putAt xs c d := fun m e => by rw [e]; rfl
  have HH := Lib.hid h
  have hne : ((xs.length : Int) == 30) = false := beq_eq_false_iff_ne.2 (by omega)
  obtain ⟨m, hm⟩ : ∃ m, m = headC (c, d) xs := ⟨_, rfl⟩
  have HPA := Lib.hid (hpa m hm)
  rw [← hm] at hml
  have hm0 : 0 ≤ (m : Int) := by omega
  have hm1 : (m : Int) ≤ (cap : Int) := by omega
  have hm2 : (m : Int) ≤ (xs.length : Int) := by omega
  have hm3 : (xs.length : Int) ≤ (cap : Int) := by omega
  have HM := Lib.hid hm
  clear h hg hc ht hpa hm
  go_enter Try.func45, Try.ntmps45
  go_wp2_with (first | (go_at_call 18; (with_reducible refine (AreThreads_yes _ xs B T _ (HH.out.keep (belowSame (by go_grown) hT)) HG.out).mono ?_); rintro e w1 ⟨rfl, hb1⟩; (have d0 := cellB hb1 (b := w.heap.size) (o := 0) (x := .int .i64 c) (by go_simp)); (have d1 := cellB hb1 (b := w.heap.size) (o := 1) (x := .int .i64 d) (by go_simp)); (have hB1 : Below w.heap.size w w1 := Below.trans (by go_grown) (hb1.mono (by simp))); have hz1 := hb1.size) | (go_at_call 49; (with_reducible refine (isThread_yes c d _ HC.out).mono ?_); rintro e w2 ⟨rfl, hb2⟩; (have e0 := cellB hb2 d0); (have e1 := cellB hb2 d1); (have hB2 : Below w.heap.size w w2 := hB1.trans (hb2.mono (by simp at hz1; omega))); have hz2 := hb2.size) | (go_at_call 71; (with_reducible refine (bsearch_any _ _ xs c d B T _ (HH.out.keep (belowSame hB2 hT)) HG.out).mono ?_); rintro e w3 ⟨rfl, hb3⟩; rw [HTH.out, ← HM.out]; (have f0 := cellB hb3 e0); (have f1 := cellB hb3 e1); (have hB3 : Below w.heap.size w w3 := hB2.trans (hb3.mono (by simp at hz1; omega))); have hz3 := hb3.size))
  have hlf : ([xs.take m, [(c, d)], xs.drop m] : List (List (Int × Int))).flatten.length ≤ 1000000 := by simp; omega
  have hC := Pairs.boxedAt w3.drew w3.heap.size 37 [(c, d)] w3.heap.size rfl (Nat.le_refl _) (by simp)
  have hC2 := Lib.hid (hC.later (w' := (w3.drew.alloc (.cells ((flatP [(c, d)]).map (Value.int .i64)).toArray 37)).alloc (.cells #[(.slice (some ⟨g, 0, none⟩) m cap), (.slice (some ⟨w3.heap.size, 0, none⟩) 1 1), (.slice (if cap = m then some ⟨g, 0, none⟩ else some ⟨g, m * 2, none⟩) (xs.length - m) (cap - m))] 25)) ((Below.refl _ _).alloc (Nat.le_refl _) _))
  clear hC
  refine wp_region_held_drew (S := fun w' => Below w3.heap.size w3 w' ∧ w'.cell? ⟨w.heap.size, 0, none⟩ = some (.int .i64 c) ∧ w'.cell? ⟨w.heap.size, 1, none⟩ = some (.int .i64 d)) (by kernel_rfl) (by (try dsimp only); exact keepS f0 f1 (by go_grown)) (fun hHeld => ?_)
  refine wpAnyH_take (i := 0) (v := ?v66) rfl (by kernel_rfl) (by kernel_rfl) (by kernel_rfl) (fun _ _ _ h => h) (Or.inl ⟨by rfl, ?hy66⟩) (by assumption) ?rest66
  case hy66 => (intro w hSw; (try dsimp only at hSw); go_simp; (try with_reducible rfl))
  simp only [Act.put, List.getElem_toArray, List.getElem_cons_zero, List.setIfInBounds_toArray, List.set_cons_zero, List.set_cons_succ]
  refine wpAnyH_take (i := 1) (v := ?v67) rfl (by kernel_rfl) (by kernel_rfl) (by kernel_rfl) (fun _ _ _ h => h) (Or.inl ⟨by rfl, ?hy67⟩) (by assumption) ?rest67
  case hy67 => (intro w hSw; (try dsimp only at hSw); go_simp; (try with_reducible rfl))
  simp only [Act.put, List.getElem_toArray, List.getElem_cons_zero, List.getElem_cons_succ, List.setIfInBounds_toArray, List.set_cons_zero, List.set_cons_succ]
  refine wpAnyH_take (i := 2) (v := ?v68) rfl (by kernel_rfl) (by kernel_rfl) (by kernel_rfl) (fun _ _ _ h => h) (Or.inl ⟨by rfl, ?hy68⟩) (by assumption) ?rest68
  case hy68 => (intro w hSw; (try dsimp only at hSw); go_simp; (try with_reducible rfl))
  simp only [Act.put, List.getElem_toArray, List.getElem_cons_zero, List.getElem_cons_succ, List.setIfInBounds_toArray, List.set_cons_zero, List.set_cons_succ]
  refine wpAnyH_take (i := 3) (v := ?v69) rfl (by kernel_rfl) (by kernel_rfl) (by kernel_rfl) (fun _ _ _ h => h) (Or.inl ⟨by rfl, ?hy69⟩) (by assumption) ?rest69
  case hy69 => (intro w hSw; (try dsimp only at hSw); go_simp; (try with_reducible rfl))
  simp only [Act.put, List.getElem_toArray, List.getElem_cons_zero, List.getElem_cons_succ, List.setIfInBounds_toArray, List.set_cons_zero, List.set_cons_succ]
  refine wpAnyH_take (i := 5) (v := ?v70) rfl (by kernel_rfl) (by kernel_rfl) (by kernel_rfl) (fun _ _ _ h => h) (Or.inl ⟨by rfl, ?hy70⟩) (by assumption) ?rest70
  case hy70 => (intro w hSw; (try dsimp only at hSw); go_simp; (try with_reducible rfl))
  simp only [Act.put, List.getElem_toArray, List.getElem_cons_zero, List.getElem_cons_succ, List.setIfInBounds_toArray, List.set_cons_zero, List.set_cons_succ]
  refine wpAnyH_take (i := 6) (v := ?v71) rfl (by kernel_rfl) (by kernel_rfl) (by kernel_rfl) (fun _ _ _ h => h) (Or.inl ⟨by rfl, ?hy71⟩) (by assumption) ?rest71
  case hy71 => (intro w hSw; (try dsimp only at hSw); go_simp; (try with_reducible rfl))
  simp only [Act.put, List.getElem_toArray, List.getElem_cons_zero, List.getElem_cons_succ, List.setIfInBounds_toArray, List.set_cons_zero, List.set_cons_succ]
  refine wpAnyH_take (i := 7) (v := ?v72) rfl (by kernel_rfl) (by kernel_rfl) (by kernel_rfl) (fun _ _ _ h => h) (Or.inl ⟨by rfl, ?hy72⟩) (by assumption) ?rest72
  case hy72 => (intro w hSw; (try dsimp only at hSw); go_simp; (try with_reducible rfl))
  simp only [Act.put, List.getElem_toArray, List.getElem_cons_zero, List.getElem_cons_succ, List.setIfInBounds_toArray, List.set_cons_zero, List.set_cons_succ]
  refine wpAnyH_ready (rs := [4]) (by kernel_rfl) (by simp) ?_
  refine AllReadyH.cons rfl (fun K hK => ?_) AllReadyH.nil
  simp only [List.getElem_toArray, List.getElem_cons_zero, List.getElem_cons_succ]
  go_simp
  refine hK.out _ _ (by (try dsimp only); exact keepS f0 f1 (by go_grown)) (fun hHeld => ?_)
  clear hK K
  refine wpAnyH_ready (rs := [8]) (by kernel_rfl) (by simp) ?_
  refine AllReadyH.cons rfl (fun K hK => ?_) AllReadyH.nil
  simp only [List.getElem_toArray, List.getElem_cons_zero, List.getElem_cons_succ]
  go_simp
  refine hK.out _ _ (by (try dsimp only); exact keepS f0 f1 (by go_grown)) (fun hHeld => ?_)
  clear hK K
  refine wpAnyH_ready (rs := [9]) (by kernel_rfl) (by simp) ?_
  refine AllReadyH.cons rfl (fun K hK => ?_) AllReadyH.nil
  simp only [List.getElem_toArray, List.getElem_cons_zero, List.getElem_cons_succ]
  go_simp
  go_at_call 72; refine (concat_any (w3.heap.size + 1) 3 [(.slice (some ⟨g, 0, none⟩) m cap), (.slice (some ⟨w3.heap.size, 0, none⟩) 1 1), (.slice (if cap = m then some ⟨g, 0, none⟩ else some ⟨g, m * 2, none⟩) (xs.length - m) (cap - m))] [xs.take m, [(c, d)], xs.drop m] _ rfl (by omega) (cells_of (cs := #[(.slice (some ⟨g, 0, none⟩) m cap), (.slice (some ⟨w3.heap.size, 0, none⟩) 1 1), (.slice (if cap = m then some ⟨g, 0, none⟩ else some ⟨g, m * 2, none⟩) (xs.length - m) (cap - m))]) (t := 25) (fr := (0, 0)) (by exact heap_alloc_last_at w3 _ _)) ?_ hlf).mono ?_; · intro i hi; match i, hi with | 0, _ => exact src_take (xs := xs) (k := m) ((HS.out.later hB3).later hHeld.1) (by omega) | 1, _ => exact Pairs.src hC2.out | 2, _ => exact src_drop_if (xs := xs) (k := m) ((HS.out.later hB3).later hHeld.1) (by omega) hlc
  rintro e w4 ⟨v4, rfl, hI4, hb4⟩
  dsimp only
  refine hK.out _ _ (by (try dsimp only); exact keepS f0 f1 (hHeld.1.trans (hb4.mono hHeld.1.size))) (fun hHeld => ?_)
  clear hK K
  refine wpAnyH_take (i := 10) (v := ?v73) rfl (by kernel_rfl) (by kernel_rfl) (by kernel_rfl) (fun _ _ _ h => h) (Or.inl ⟨by rfl, ?hy73⟩) (by assumption) ?rest73
  case hy73 => (intro w hSw; (try dsimp only at hSw); go_simp; (try with_reducible rfl))
  simp only [Act.put, List.getElem_toArray, List.getElem_cons_zero, List.getElem_cons_succ, List.setIfInBounds_toArray, List.set_cons_zero, List.set_cons_succ]
  refine wpAnyH_take (i := 11) (v := ?v74) rfl (by kernel_rfl) (by kernel_rfl) (by kernel_rfl) (fun _ _ _ h => h) (Or.inl ⟨by rfl, ?hy74⟩) (by assumption) ?rest74
  case hy74 => (intro w hSw; (try dsimp only at hSw); go_simp; (try with_reducible rfl))
  simp only [Act.put, List.getElem_toArray, List.getElem_cons_zero, List.getElem_cons_succ, List.setIfInBounds_toArray, List.set_cons_zero, List.set_cons_succ]
  refine wpAnyH_done (by kernel_rfl) ?_ _
  go_wp2
  all_goals
    go_ret2
    refine ⟨v4, rfl, PairsIn.wider (T := w4.heap.size) (B := w3.heap.size) ?_ hB3.size (Nat.le_refl _), hB3.trans (hHeld.1.mono hB3.size)⟩
    have e : ([xs.take m, [(c, d)], xs.drop m] : List (List (Int × Int))).flatten = putAt xs c d := by rw [← HPA.out]; simp
    rw [← e]
    exact hI4.wider (by simp; try omega) (Nat.le_refl _)

end Go.Proofs.Ytngonpiiehmlaaa
