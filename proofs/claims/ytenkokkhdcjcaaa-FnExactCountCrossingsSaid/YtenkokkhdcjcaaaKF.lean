/- A chord is added: the program. -/
import Derived.Test.YtenkokkhdcjcaaaKE
namespace Go.Proofs.Ytenkokkhdcjcaaa
open Go.RowKit
set_option linter.unusedVariables false

theorem heap_alloc_last_at (W : World) (o1 o2 : Obj) : ((W.alloc o1).alloc o2).heap[W.heap.size + 1]? = some o2 := heap_alloc2_new W o1 o2

theorem bsearch_nil (p : Int) (xs : List (Int × Int)) (c d : Int) (B T : Nat) (w : World) (h : PairsIn 50 w B T (.slice none 0 0) xs) (hg : goodC p xs) (hx : xs = []) :
    Calls Try.prog 66 #[.slice none 0 0, .agg #[.int .i64 c, .int .i64 d], .func (.func 55) #[] #[]] w
      fun e w' => e = .returned (.tuple #[.int .i64 (headC (c, d) xs : Nat), .bool (thereAt xs c d)]) ∧ Below w.heap.size w w' := by
  subst hx
  exact bsearch_any p none 0 [] c d B T w h hg

set_option maxHeartbeats 1000000 in
theorem iAddChord_nil (p : Int) (xs : List (Int × Int)) (c d : Int) (B T : Nat) (w : World) (h : PairsIn 50 w B T (.slice none 0 0) xs) (hT : T ≤ w.heap.size) (hx : xs = []) (hg : goodC p xs) (hc : 0 ≤ c ∧ c < d ∧ d < p) (hl : xs.length < 40) (ht : thereAt xs c d = false) :
    Calls Try.prog 42 #[.int .i64 p, .slice none 0 0, .agg #[.int .i64 c, .int .i64 d]] w (Gives (PairsIn 50) w (putAt xs c d) true) := by
  have HG := Lib.hid hg
  have HC := Lib.hid hc
  have HTH := Lib.hid ht
  have HS := Lib.hid h.1.src
  have hml := headC_le (c, d) xs
  have hpa : ∀ m, m = headC (c, d) xs → xs.take m ++ [(c, d)] ++ xs.drop m = putAt xs c d := fun m e => by rw [e]; rfl
  have hne : (((0 : Nat) : Int) == 40) = false := rfl
  have h' : PairsIn 50 w B T (.slice none xs.length 0) xs := by rw [hx] at h ⊢; exact h
  have HH := Lib.hid h'
  have HX := Lib.hid hx
  have hxl : xs.length = 0 := by rw [hx]; rfl
  obtain ⟨mm, hmm⟩ : ∃ m, m = headC (c, d) xs := ⟨_, rfl⟩
  have hm0 : headC (c, d) xs = 0 := by omega
  have HM0 := Lib.hid hm0
  have HPA := Lib.hid (hpa 0 hm0.symm)
  rw [hxl] at HH
  clear h h' hg hc ht hpa hx hmm hml hm0
  go_enter Try.func42, Try.ntmps42
  go_wp2_with (first | (go_at_call 18; (with_reducible refine (AreChords_yes p _ xs B T _ (HH.out.keep (belowSame (by go_grown) hT)) HG.out).mono ?_); rintro e w1 ⟨rfl, hb1⟩; (have d0 := cellB hb1 (b := w.heap.size) (o := 0) (x := .int .i64 c) (by go_simp)); (have d1 := cellB hb1 (b := w.heap.size) (o := 1) (x := .int .i64 d) (by go_simp)); (have hB1 : Below w.heap.size w w1 := Below.trans (by go_grown) (hb1.mono (by simp))); have hz1 := hb1.size) | (go_at_call 54; (with_reducible refine (isChord_yes p c d _ HC.out).mono ?_); rintro e w2 ⟨rfl, hb2⟩; (have e0 := cellB hb2 d0); (have e1 := cellB hb2 d1); (have hB2 : Below w.heap.size w w2 := hB1.trans (hb2.mono (by simp at hz1; omega))); have hz2 := hb2.size) | (go_at_call 66; (with_reducible refine (bsearch_nil p xs c d B T _ (HH.out.keep (belowSame hB2 hT)) HG.out HX.out).mono ?_); rintro e w3 ⟨rfl, hb3⟩; rw [HTH.out, HM0.out]; (have f0 := cellB hb3 e0); (have f1 := cellB hb3 e1); (have hB3 : Below w.heap.size w w3 := hB2.trans (hb3.mono (by simp at hz1; omega))); have hz3 := hb3.size))
  have hlf : ([xs.take 0, [(c, d)], xs.drop 0] : List (List (Int × Int))).flatten.length ≤ 1000000 := by simp; omega
  have hC := Pairs.boxedAt w3.drew w3.heap.size 50 [(c, d)] w3.heap.size rfl (Nat.le_refl _) (by simp)
  have hC2 := Lib.hid (hC.later (w' := (w3.drew.alloc (.cells ((flatP [(c, d)]).map (Value.int .i64)).toArray 50)).alloc (.cells #[(.slice none 0 0), (.slice (some ⟨w3.heap.size, 0, none⟩) 1 1), (.slice none 0 0)] 25)) ((Below.refl _ _).alloc (Nat.le_refl _) _))
  clear hC
  refine wp_region_held_drew (S := fun w' => Below w3.heap.size w3 w' ∧ w'.cell? ⟨w.heap.size, 0, none⟩ = some (.int .i64 c) ∧ w'.cell? ⟨w.heap.size, 1, none⟩ = some (.int .i64 d)) (by kernel_rfl) (by (try dsimp only); exact keepS f0 f1 (by go_grown)) (fun hHeld => ?_)
  refine wpAnyH_take (i := 0) (v := ?v1) rfl (by kernel_rfl) (by kernel_rfl) (by kernel_rfl) (fun _ _ _ h => h) (Or.inl ⟨by rfl, ?hy1⟩) (by assumption) ?rest1
  case hy1 => (intro w hSw; (try dsimp only at hSw); go_simp; (try with_reducible rfl))
  simp only [Act.put, List.getElem_toArray, List.getElem_cons_zero, List.setIfInBounds_toArray, List.set_cons_zero, List.set_cons_succ]
  refine wpAnyH_take (i := 1) (v := ?v2) rfl (by kernel_rfl) (by kernel_rfl) (by kernel_rfl) (fun _ _ _ h => h) (Or.inl ⟨by rfl, ?hy2⟩) (by assumption) ?rest2
  case hy2 => (intro w hSw; (try dsimp only at hSw); go_simp; (try with_reducible rfl))
  simp only [Act.put, List.getElem_toArray, List.getElem_cons_zero, List.getElem_cons_succ, List.setIfInBounds_toArray, List.set_cons_zero, List.set_cons_succ]
  refine wpAnyH_take (i := 2) (v := ?v3) rfl (by kernel_rfl) (by kernel_rfl) (by kernel_rfl) (fun _ _ _ h => h) (Or.inl ⟨by rfl, ?hy3⟩) (by assumption) ?rest3
  case hy3 => (intro w hSw; (try dsimp only at hSw); go_simp; (try with_reducible rfl))
  simp only [Act.put, List.getElem_toArray, List.getElem_cons_zero, List.getElem_cons_succ, List.setIfInBounds_toArray, List.set_cons_zero, List.set_cons_succ]
  refine wpAnyH_take (i := 3) (v := ?v4) rfl (by kernel_rfl) (by kernel_rfl) (by kernel_rfl) (fun _ _ _ h => h) (Or.inl ⟨by rfl, ?hy4⟩) (by assumption) ?rest4
  case hy4 => (intro w hSw; (try dsimp only at hSw); go_simp; (try with_reducible rfl))
  simp only [Act.put, List.getElem_toArray, List.getElem_cons_zero, List.getElem_cons_succ, List.setIfInBounds_toArray, List.set_cons_zero, List.set_cons_succ]
  refine wpAnyH_take (i := 5) (v := ?v5) rfl (by kernel_rfl) (by kernel_rfl) (by kernel_rfl) (fun _ _ _ h => h) (Or.inl ⟨by rfl, ?hy5⟩) (by assumption) ?rest5
  case hy5 => (intro w hSw; (try dsimp only at hSw); go_simp; (try with_reducible rfl))
  simp only [Act.put, List.getElem_toArray, List.getElem_cons_zero, List.getElem_cons_succ, List.setIfInBounds_toArray, List.set_cons_zero, List.set_cons_succ]
  refine wpAnyH_take (i := 6) (v := ?v6) rfl (by kernel_rfl) (by kernel_rfl) (by kernel_rfl) (fun _ _ _ h => h) (Or.inl ⟨by rfl, ?hy6⟩) (by assumption) ?rest6
  case hy6 => (intro w hSw; (try dsimp only at hSw); go_simp; (try with_reducible rfl))
  simp only [Act.put, List.getElem_toArray, List.getElem_cons_zero, List.getElem_cons_succ, List.setIfInBounds_toArray, List.set_cons_zero, List.set_cons_succ]
  refine wpAnyH_take (i := 7) (v := ?v7) rfl (by kernel_rfl) (by kernel_rfl) (by kernel_rfl) (fun _ _ _ h => h) (Or.inl ⟨by rfl, ?hy7⟩) (by assumption) ?rest7
  case hy7 => (intro w hSw; (try dsimp only at hSw); go_simp; (try with_reducible rfl))
  simp only [Act.put, List.getElem_toArray, List.getElem_cons_zero, List.getElem_cons_succ, List.setIfInBounds_toArray, List.set_cons_zero, List.set_cons_succ]
  refine wpAnyH_ready (rs := [4]) (by kernel_rfl) (by simp) ?_
  refine AllReadyH.cons rfl (fun K hK => ?_) AllReadyH.nil
  simp only [List.getElem_toArray, List.getElem_cons_zero, List.getElem_cons_succ]
  go_simp
  refine hK.out _ _ (by (try dsimp only); exact keepS f0 f1 (by go_grown)) (fun hHeld => ?_)
  clear hK K
  refine wpAnyH_ready (rs := [8]) (by kernel_rfl) (by simp) ?_
  refine AllReadyH.cons rfl (fun K hK => ?_) AllReadyH.nil
  simp only [List.getElem_toArray, List.getElem_cons_zero, List.getElem_cons_succ]
  go_simp
  refine hK.out _ _ (by (try dsimp only); exact keepS f0 f1 (by go_grown)) (fun hHeld => ?_)
  clear hK K
  refine wpAnyH_ready (rs := [9]) (by kernel_rfl) (by simp) ?_
  refine AllReadyH.cons rfl (fun K hK => ?_) AllReadyH.nil
  simp only [List.getElem_toArray, List.getElem_cons_zero, List.getElem_cons_succ]
  go_simp
  go_at_call 63; refine (concat_any (w3.heap.size + 1) 3 [(.slice none 0 0), (.slice (some ⟨w3.heap.size, 0, none⟩) 1 1), (.slice none 0 0)] [xs.take 0, [(c, d)], xs.drop 0] _ rfl (by omega) (cells_of (cs := #[(.slice none 0 0), (.slice (some ⟨w3.heap.size, 0, none⟩) 1 1), (.slice none 0 0)]) (t := 25) (fr := (0, 0)) (by exact heap_alloc_last_at w3 _ _)) ?_ hlf).mono ?_; · intro i hi; match i, hi with | 0, _ => exact .inl ⟨rfl, by rw [HX.out]; rfl⟩ | 1, _ => exact Pairs.src hC2.out | 2, _ => exact .inl ⟨rfl, by rw [HX.out]; rfl⟩
  rintro e w4 ⟨v4, rfl, hI4, hb4⟩
  dsimp only
  refine hK.out _ _ (by (try dsimp only); exact keepS f0 f1 (hHeld.1.trans (hb4.mono hHeld.1.size))) (fun hHeld => ?_)
  clear hK K
  refine wpAnyH_take (i := 10) (v := ?v8) rfl (by kernel_rfl) (by kernel_rfl) (by kernel_rfl) (fun _ _ _ h => h) (Or.inl ⟨by rfl, ?hy8⟩) (by assumption) ?rest8
  case hy8 => (intro w hSw; (try dsimp only at hSw); go_simp; (try with_reducible rfl))
  simp only [Act.put, List.getElem_toArray, List.getElem_cons_zero, List.getElem_cons_succ, List.setIfInBounds_toArray, List.set_cons_zero, List.set_cons_succ]
  refine wpAnyH_take (i := 11) (v := ?v9) rfl (by kernel_rfl) (by kernel_rfl) (by kernel_rfl) (fun _ _ _ h => h) (Or.inl ⟨by rfl, ?hy9⟩) (by assumption) ?rest9
  case hy9 => (intro w hSw; (try dsimp only at hSw); go_simp; (try with_reducible rfl))
  simp only [Act.put, List.getElem_toArray, List.getElem_cons_zero, List.getElem_cons_succ, List.setIfInBounds_toArray, List.set_cons_zero, List.set_cons_succ]
  refine wpAnyH_done (by kernel_rfl) ?_ _
  go_wp2
  all_goals
    go_ret2
    refine ⟨v4, rfl, PairsIn.wider (T := w4.heap.size) (B := w3.heap.size) ?_ hB3.size (Nat.le_refl _), hB3.trans (hHeld.1.mono hB3.size)⟩
    have e : ([xs.take 0, [(c, d)], xs.drop 0] : List (List (Int × Int))).flatten = putAt xs c d := by rw [← HPA.out]; simp
    rw [← e]
    exact hI4.wider (by simp; try omega) (Nat.le_refl _)

set_option maxHeartbeats 1000000 in
theorem iAddChord_some (p : Int) (g cap : Nat) (xs : List (Int × Int)) (c d : Int) (B T : Nat) (w : World) (h : PairsIn 50 w B T (.slice (some ⟨g, 0, none⟩) xs.length cap) xs) (hT : T ≤ w.heap.size) (hlc : xs.length ≤ cap) (hg : goodC p xs) (hc : 0 ≤ c ∧ c < d ∧ d < p) (hl : xs.length < 40) (ht : thereAt xs c d = false) :
    Calls Try.prog 42 #[.int .i64 p, .slice (some ⟨g, 0, none⟩) xs.length cap, .agg #[.int .i64 c, .int .i64 d]] w (Gives (PairsIn 50) w (putAt xs c d) true) := by
  have HG := Lib.hid hg
  have HC := Lib.hid hc
  have HTH := Lib.hid ht
  have HS := Lib.hid h.1.src
  have hml := headC_le (c, d) xs
  have hpa : ∀ m, m = headC (c, d) xs → xs.take m ++ [(c, d)] ++ xs.drop m = putAt xs c d := fun m e => by rw [e]; rfl
  have HH := Lib.hid h
  have hne : ((xs.length : Int) == 40) = false := beq_eq_false_iff_ne.2 (by omega)
  obtain ⟨m, hm⟩ : ∃ m, m = headC (c, d) xs := ⟨_, rfl⟩
  have HPA := Lib.hid (hpa m hm)
  rw [← hm] at hml
  have hm0 : 0 ≤ (m : Int) := by omega
  have hm1 : (m : Int) ≤ (cap : Int) := by omega
  have hm2 : (m : Int) ≤ (xs.length : Int) := by omega
  have hm3 : (xs.length : Int) ≤ (cap : Int) := by omega
  have HM := Lib.hid hm
  clear h hg hc ht hpa hm
  go_enter Try.func42, Try.ntmps42
  go_wp2_with (first | (go_at_call 18; (with_reducible refine (AreChords_yes p _ xs B T _ (HH.out.keep (belowSame (by go_grown) hT)) HG.out).mono ?_); rintro e w1 ⟨rfl, hb1⟩; (have d0 := cellB hb1 (b := w.heap.size) (o := 0) (x := .int .i64 c) (by go_simp)); (have d1 := cellB hb1 (b := w.heap.size) (o := 1) (x := .int .i64 d) (by go_simp)); (have hB1 : Below w.heap.size w w1 := Below.trans (by go_grown) (hb1.mono (by simp))); have hz1 := hb1.size) | (go_at_call 54; (with_reducible refine (isChord_yes p c d _ HC.out).mono ?_); rintro e w2 ⟨rfl, hb2⟩; (have e0 := cellB hb2 d0); (have e1 := cellB hb2 d1); (have hB2 : Below w.heap.size w w2 := hB1.trans (hb2.mono (by simp at hz1; omega))); have hz2 := hb2.size) | (go_at_call 66; (with_reducible refine (bsearch_any p _ _ xs c d B T _ (HH.out.keep (belowSame hB2 hT)) HG.out).mono ?_); rintro e w3 ⟨rfl, hb3⟩; rw [HTH.out, ← HM.out]; (have f0 := cellB hb3 e0); (have f1 := cellB hb3 e1); (have hB3 : Below w.heap.size w w3 := hB2.trans (hb3.mono (by simp at hz1; omega))); have hz3 := hb3.size))
  have hlf : ([xs.take m, [(c, d)], xs.drop m] : List (List (Int × Int))).flatten.length ≤ 1000000 := by simp; omega
  have hC := Pairs.boxedAt w3.drew w3.heap.size 50 [(c, d)] w3.heap.size rfl (Nat.le_refl _) (by simp)
  have hC2 := Lib.hid (hC.later (w' := (w3.drew.alloc (.cells ((flatP [(c, d)]).map (Value.int .i64)).toArray 50)).alloc (.cells #[(.slice (some ⟨g, 0, none⟩) m cap), (.slice (some ⟨w3.heap.size, 0, none⟩) 1 1), (.slice (if cap = m then some ⟨g, 0, none⟩ else some ⟨g, m * 2, none⟩) (xs.length - m) (cap - m))] 25)) ((Below.refl _ _).alloc (Nat.le_refl _) _))
  clear hC
  refine wp_region_held_drew (S := fun w' => Below w3.heap.size w3 w' ∧ w'.cell? ⟨w.heap.size, 0, none⟩ = some (.int .i64 c) ∧ w'.cell? ⟨w.heap.size, 1, none⟩ = some (.int .i64 d)) (by kernel_rfl) (by (try dsimp only); exact keepS f0 f1 (by go_grown)) (fun hHeld => ?_)
  refine wpAnyH_take (i := 0) (v := ?v10) rfl (by kernel_rfl) (by kernel_rfl) (by kernel_rfl) (fun _ _ _ h => h) (Or.inl ⟨by rfl, ?hy10⟩) (by assumption) ?rest10
  case hy10 => (intro w hSw; (try dsimp only at hSw); go_simp; (try with_reducible rfl))
  simp only [Act.put, List.getElem_toArray, List.getElem_cons_zero, List.setIfInBounds_toArray, List.set_cons_zero, List.set_cons_succ]
  refine wpAnyH_take (i := 1) (v := ?v11) rfl (by kernel_rfl) (by kernel_rfl) (by kernel_rfl) (fun _ _ _ h => h) (Or.inl ⟨by rfl, ?hy11⟩) (by assumption) ?rest11
  case hy11 => (intro w hSw; (try dsimp only at hSw); go_simp; (try with_reducible rfl))
  simp only [Act.put, List.getElem_toArray, List.getElem_cons_zero, List.getElem_cons_succ, List.setIfInBounds_toArray, List.set_cons_zero, List.set_cons_succ]
  refine wpAnyH_take (i := 2) (v := ?v12) rfl (by kernel_rfl) (by kernel_rfl) (by kernel_rfl) (fun _ _ _ h => h) (Or.inl ⟨by rfl, ?hy12⟩) (by assumption) ?rest12
  case hy12 => (intro w hSw; (try dsimp only at hSw); go_simp; (try with_reducible rfl))
  simp only [Act.put, List.getElem_toArray, List.getElem_cons_zero, List.getElem_cons_succ, List.setIfInBounds_toArray, List.set_cons_zero, List.set_cons_succ]
  refine wpAnyH_take (i := 3) (v := ?v13) rfl (by kernel_rfl) (by kernel_rfl) (by kernel_rfl) (fun _ _ _ h => h) (Or.inl ⟨by rfl, ?hy13⟩) (by assumption) ?rest13
  case hy13 => (intro w hSw; (try dsimp only at hSw); go_simp; (try with_reducible rfl))
  simp only [Act.put, List.getElem_toArray, List.getElem_cons_zero, List.getElem_cons_succ, List.setIfInBounds_toArray, List.set_cons_zero, List.set_cons_succ]
  refine wpAnyH_take (i := 5) (v := ?v14) rfl (by kernel_rfl) (by kernel_rfl) (by kernel_rfl) (fun _ _ _ h => h) (Or.inl ⟨by rfl, ?hy14⟩) (by assumption) ?rest14
  case hy14 => (intro w hSw; (try dsimp only at hSw); go_simp; (try with_reducible rfl))
  simp only [Act.put, List.getElem_toArray, List.getElem_cons_zero, List.getElem_cons_succ, List.setIfInBounds_toArray, List.set_cons_zero, List.set_cons_succ]
  refine wpAnyH_take (i := 6) (v := ?v15) rfl (by kernel_rfl) (by kernel_rfl) (by kernel_rfl) (fun _ _ _ h => h) (Or.inl ⟨by rfl, ?hy15⟩) (by assumption) ?rest15
  case hy15 => (intro w hSw; (try dsimp only at hSw); go_simp; (try with_reducible rfl))
  simp only [Act.put, List.getElem_toArray, List.getElem_cons_zero, List.getElem_cons_succ, List.setIfInBounds_toArray, List.set_cons_zero, List.set_cons_succ]
  refine wpAnyH_take (i := 7) (v := ?v16) rfl (by kernel_rfl) (by kernel_rfl) (by kernel_rfl) (fun _ _ _ h => h) (Or.inl ⟨by rfl, ?hy16⟩) (by assumption) ?rest16
  case hy16 => (intro w hSw; (try dsimp only at hSw); go_simp; (try with_reducible rfl))
  simp only [Act.put, List.getElem_toArray, List.getElem_cons_zero, List.getElem_cons_succ, List.setIfInBounds_toArray, List.set_cons_zero, List.set_cons_succ]
  refine wpAnyH_ready (rs := [4]) (by kernel_rfl) (by simp) ?_
  refine AllReadyH.cons rfl (fun K hK => ?_) AllReadyH.nil
  simp only [List.getElem_toArray, List.getElem_cons_zero, List.getElem_cons_succ]
  go_simp
  refine hK.out _ _ (by (try dsimp only); exact keepS f0 f1 (by go_grown)) (fun hHeld => ?_)
  clear hK K
  refine wpAnyH_ready (rs := [8]) (by kernel_rfl) (by simp) ?_
  refine AllReadyH.cons rfl (fun K hK => ?_) AllReadyH.nil
  simp only [List.getElem_toArray, List.getElem_cons_zero, List.getElem_cons_succ]
  go_simp
  refine hK.out _ _ (by (try dsimp only); exact keepS f0 f1 (by go_grown)) (fun hHeld => ?_)
  clear hK K
  refine wpAnyH_ready (rs := [9]) (by kernel_rfl) (by simp) ?_
  refine AllReadyH.cons rfl (fun K hK => ?_) AllReadyH.nil
  simp only [List.getElem_toArray, List.getElem_cons_zero, List.getElem_cons_succ]
  go_simp
  go_at_call 63; refine (concat_any (w3.heap.size + 1) 3 [(.slice (some ⟨g, 0, none⟩) m cap), (.slice (some ⟨w3.heap.size, 0, none⟩) 1 1), (.slice (if cap = m then some ⟨g, 0, none⟩ else some ⟨g, m * 2, none⟩) (xs.length - m) (cap - m))] [xs.take m, [(c, d)], xs.drop m] _ rfl (by omega) (cells_of (cs := #[(.slice (some ⟨g, 0, none⟩) m cap), (.slice (some ⟨w3.heap.size, 0, none⟩) 1 1), (.slice (if cap = m then some ⟨g, 0, none⟩ else some ⟨g, m * 2, none⟩) (xs.length - m) (cap - m))]) (t := 25) (fr := (0, 0)) (by exact heap_alloc_last_at w3 _ _)) ?_ hlf).mono ?_; · intro i hi; match i, hi with | 0, _ => exact src_take (xs := xs) (k := m) ((HS.out.later hB3).later hHeld.1) (by omega) | 1, _ => exact Pairs.src hC2.out | 2, _ => exact src_drop_if (xs := xs) (k := m) ((HS.out.later hB3).later hHeld.1) (by omega) hlc
  rintro e w4 ⟨v4, rfl, hI4, hb4⟩
  dsimp only
  refine hK.out _ _ (by (try dsimp only); exact keepS f0 f1 (hHeld.1.trans (hb4.mono hHeld.1.size))) (fun hHeld => ?_)
  clear hK K
  refine wpAnyH_take (i := 10) (v := ?v17) rfl (by kernel_rfl) (by kernel_rfl) (by kernel_rfl) (fun _ _ _ h => h) (Or.inl ⟨by rfl, ?hy17⟩) (by assumption) ?rest17
  case hy17 => (intro w hSw; (try dsimp only at hSw); go_simp; (try with_reducible rfl))
  simp only [Act.put, List.getElem_toArray, List.getElem_cons_zero, List.getElem_cons_succ, List.setIfInBounds_toArray, List.set_cons_zero, List.set_cons_succ]
  refine wpAnyH_take (i := 11) (v := ?v18) rfl (by kernel_rfl) (by kernel_rfl) (by kernel_rfl) (fun _ _ _ h => h) (Or.inl ⟨by rfl, ?hy18⟩) (by assumption) ?rest18
  case hy18 => (intro w hSw; (try dsimp only at hSw); go_simp; (try with_reducible rfl))
  simp only [Act.put, List.getElem_toArray, List.getElem_cons_zero, List.getElem_cons_succ, List.setIfInBounds_toArray, List.set_cons_zero, List.set_cons_succ]
  refine wpAnyH_done (by kernel_rfl) ?_ _
  go_wp2
  all_goals
    go_ret2
    refine ⟨v4, rfl, PairsIn.wider (T := w4.heap.size) (B := w3.heap.size) ?_ hB3.size (Nat.le_refl _), hB3.trans (hHeld.1.mono hB3.size)⟩
    have e : ([xs.take m, [(c, d)], xs.drop m] : List (List (Int × Int))).flatten = putAt xs c d := by rw [← HPA.out]; simp
    rw [← e]
    exact hI4.wider (by simp; try omega) (Nat.le_refl _)

end Go.Proofs.Ytenkokkhdcjcaaa
