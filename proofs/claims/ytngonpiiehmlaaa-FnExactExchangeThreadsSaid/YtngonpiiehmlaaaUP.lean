/- The model's threads in order: one more is put in. -/
import Derived.Test.YtngonpiiehmlaaaU4
import Derived.Test.YtngonpiiehmlaaaP6
namespace Go.Proofs.Ytngonpiiehmlaaa
open Go.RowKit
set_option linter.unusedVariables false

theorem Pairs.keptBut {w w' : World} {B : Nat} {e : TypeId} {v : Value} {xs : List (Int × Int)} {row : Option Nat} (h : Pairs w B e v xs) (hg : w.grownBy w' row) (hne : v.ownBlock = none ∨ v.ownBlock ≠ row) : Pairs w' B e v xs :=
  World.ownsRow.kept h hg hne

theorem src_form {w : World} {B : Nat} {e : TypeId} {v : Value} {xs : List (Int × Int)} (h : Pairs w B e v xs) :
    (v = .slice none 0 0 ∧ xs = []) ∨ ∃ g cap, v = .slice (some ⟨g, 0, none⟩) xs.length cap ∧ g < w.heap.size ∧ xs.length ≤ cap ∧ cap ≤ maxLen := by
  rcases h.2 with ⟨hv, hn⟩ | ⟨g, cap, cur, hv, hB, hg, hn, hm, _, _⟩
  · exact .inl ⟨hv, List.eq_nil_of_length_eq_zero hn⟩
  · exact .inr ⟨g, cap, hv, (Array.getElem?_eq_some_iff.1 hg).1, hn, hm⟩

theorem Pairs.boxedAt (W : World) (B : Nat) (e : TypeId) (xs : List (Int × Int)) (n : Nat) (hn : W.heap.size = n) (hB : B ≤ n) (hl : xs.length ≤ 1000000000) :
    Pairs (W.alloc (.cells ((flatP xs).map (Value.int .i64)).toArray e)) B e (.slice (some ⟨n, 0, none⟩) xs.length xs.length) xs := by
  subst hn
  exact Pairs.boxed W B e xs hB hl

theorem keepS {W0 w' : World} {b : Nat} {x y : Value} (b0 : W0.cell? ⟨b, 0, none⟩ = some x) (b1 : W0.cell? ⟨b, 1, none⟩ = some y) (hb : Below W0.heap.size W0 w') :
    Below W0.heap.size W0 w' ∧ w'.cell? ⟨b, 0, none⟩ = some x ∧ w'.cell? ⟨b, 1, none⟩ = some y := ⟨hb, cellB hb b0, cellB hb b1⟩

/-- One more in its place. -/
def putAt (xs : List (Int × Int)) (c d : Int) : List (Int × Int) := xs.take (headC (c, d) xs) ++ [(c, d)] ++ xs.drop (headC (c, d) xs)

theorem putAt_length (xs : List (Int × Int)) (c d : Int) : (putAt xs c d).length = xs.length + 1 := by
  have := headC_le (c, d) xs
  unfold putAt
  simp
  omega


set_option maxHeartbeats 1000000 in
theorem sgPut_nil (c d : Int) (w : World) :
    Calls Try.prog 69 #[.slice none 0 0, .agg #[.int .i64 c, .int .i64 d]] w fun e w' => ∃ v', e = .returned v' ∧ PairsIn 37 w' w.heap.size w'.heap.size v' ([] ++ ([] : List (Int × Int)).take 0 ++ [(c, d)] ++ ([] : List (Int × Int)).drop 0) ∧ Below w.heap.size w w' := by
  obtain ⟨m, hm⟩ : ∃ m, m = 0 := ⟨_, rfl⟩
  obtain ⟨xs, hxs⟩ : ∃ xs : List (Int × Int), xs = [] := ⟨_, rfl⟩
  have HX := Lib.hid (And.intro hm hxs)
  rw [show (([] : List (Int × Int)).take 0) = xs.take m by rw [hxs, hm], show (([] : List (Int × Int)).drop 0) = xs.drop m by rw [hxs, hm]]
  have hl : xs.length = 0 := by rw [hxs]; rfl
  clear hm hxs
  go_enter Try.func69, Try.ntmps69
  go_wp2
  go_loopw [5] (fun i wr => i = .int .i64 0 ∧ wr = w.alloc (.cells #[.int .i64 c, .int .i64 d] 37)) (fun _ _ => 0)
  case atStart => exact ⟨rfl, rfl⟩
  case round =>
    obtain ⟨rfl, rfl⟩ := hrel
    go_wp2

    refine wp_region_held_drew (S := fun w' => Below w.heap.size w w') (by kernel_rfl) (by (try dsimp only); go_grown) (fun hHeld => ?_)
    refine wpAnyH_take (i := 0) (v := ?v25) rfl (by kernel_rfl) (by kernel_rfl) (by kernel_rfl) (fun _ _ _ h => h) (Or.inl ⟨by rfl, ?hy25⟩) (by assumption) ?rest25
    case hy25 => (intro w hSw; (try dsimp only at hSw); go_simp; (try with_reducible rfl))
    simp only [Act.put, List.getElem_toArray, List.getElem_cons_zero, List.setIfInBounds_toArray, List.set_cons_zero, List.set_cons_succ]
    refine wpAnyH_take (i := 1) (v := ?v26) rfl (by kernel_rfl) (by kernel_rfl) (by kernel_rfl) (fun _ _ _ h => h) (Or.inl ⟨by rfl, ?hy26⟩) (by assumption) ?rest26
    case hy26 => (intro w hSw; (try dsimp only at hSw); go_simp; (try with_reducible rfl))
    simp only [Act.put, List.getElem_toArray, List.getElem_cons_zero, List.getElem_cons_succ, List.setIfInBounds_toArray, List.set_cons_zero, List.set_cons_succ]
    refine wpAnyH_take (i := 2) (v := ?v27) rfl (by kernel_rfl) (by kernel_rfl) (by kernel_rfl) (fun _ _ _ h => h) (Or.inl ⟨by rfl, ?hy27⟩) (by assumption) ?rest27
    case hy27 => (intro w hSw; (try dsimp only at hSw); go_simp; (try with_reducible rfl))
    simp only [Act.put, List.getElem_toArray, List.getElem_cons_zero, List.getElem_cons_succ, List.setIfInBounds_toArray, List.set_cons_zero, List.set_cons_succ]
    refine wpAnyH_take (i := 3) (v := ?v28) rfl (by kernel_rfl) (by kernel_rfl) (by kernel_rfl) (fun _ _ _ h => h) (Or.inl ⟨by rfl, ?hy28⟩) (by assumption) ?rest28
    case hy28 => (intro w hSw; (try dsimp only at hSw); go_simp; (try with_reducible rfl))
    simp only [Act.put, List.getElem_toArray, List.getElem_cons_zero, List.getElem_cons_succ, List.setIfInBounds_toArray, List.set_cons_zero, List.set_cons_succ]
    refine wpAnyH_take (i := 4) (v := ?v29) rfl (by kernel_rfl) (by kernel_rfl) (by kernel_rfl) (fun _ _ _ h => h) (Or.inl ⟨by rfl, ?hy29⟩) (by assumption) ?rest29
    case hy29 => (intro w hSw; (try dsimp only at hSw); go_simp; (try with_reducible rfl))
    simp only [Act.put, List.getElem_toArray, List.getElem_cons_zero, List.getElem_cons_succ, List.setIfInBounds_toArray, List.set_cons_zero, List.set_cons_succ]
    refine wpAnyH_take (i := 5) (v := undef) rfl (by kernel_rfl) (by kernel_rfl) (by kernel_rfl) (fun _ _ _ h => h) (Or.inr ⟨by rfl, rfl⟩) (by assumption) ?_
    simp only [Act.put, List.getElem_toArray, List.getElem_cons_zero, List.getElem_cons_succ, List.setIfInBounds_toArray, List.set_cons_zero, List.set_cons_succ]
    refine wpAnyH_take (i := 6) (v := undef) rfl (by kernel_rfl) (by kernel_rfl) (by kernel_rfl) (fun _ _ _ h => h) (Or.inr ⟨by rfl, rfl⟩) (by assumption) ?_
    simp only [Act.put, List.getElem_toArray, List.getElem_cons_zero, List.getElem_cons_succ, List.setIfInBounds_toArray, List.set_cons_zero, List.set_cons_succ]
    refine wpAnyH_take (i := 7) (v := undef) rfl (by kernel_rfl) (by kernel_rfl) (by kernel_rfl) (fun _ _ _ h => h) (Or.inr ⟨by rfl, rfl⟩) (by assumption) ?_
    simp only [Act.put, List.getElem_toArray, List.getElem_cons_zero, List.getElem_cons_succ, List.setIfInBounds_toArray, List.set_cons_zero, List.set_cons_succ]
    refine wpAnyH_take (i := 8) (v := undef) rfl (by kernel_rfl) (by kernel_rfl) (by kernel_rfl) (fun _ _ _ h => h) (Or.inr ⟨by rfl, rfl⟩) (by assumption) ?_
    simp only [Act.put, List.getElem_toArray, List.getElem_cons_zero, List.getElem_cons_succ, List.setIfInBounds_toArray, List.set_cons_zero, List.set_cons_succ]
    refine wpAnyH_take (i := 9) (v := undef) rfl (by kernel_rfl) (by kernel_rfl) (by kernel_rfl) (fun _ _ _ h => h) (Or.inr ⟨by rfl, rfl⟩) (by assumption) ?_
    simp only [Act.put, List.getElem_toArray, List.getElem_cons_zero, List.getElem_cons_succ, List.setIfInBounds_toArray, List.set_cons_zero, List.set_cons_succ]
    refine wpAnyH_take (i := 10) (v := undef) rfl (by kernel_rfl) (by kernel_rfl) (by kernel_rfl) (fun _ _ _ h => h) (Or.inr ⟨by rfl, rfl⟩) (by assumption) ?_
    simp only [Act.put, List.getElem_toArray, List.getElem_cons_zero, List.getElem_cons_succ, List.setIfInBounds_toArray, List.set_cons_zero, List.set_cons_succ]
    refine wpAnyH_take (i := 11) (v := ?v30) rfl (by kernel_rfl) (by kernel_rfl) (by kernel_rfl) (fun _ _ _ h => h) (Or.inl ⟨by rfl, ?hy30⟩) (by assumption) ?rest30
    case hy30 => (intro w hSw; (try dsimp only at hSw); go_simp; (try with_reducible rfl))
    simp only [Act.put, List.getElem_toArray, List.getElem_cons_zero, List.getElem_cons_succ, List.setIfInBounds_toArray, List.set_cons_zero, List.set_cons_succ]
    refine wpAnyH_done (by kernel_rfl) ?_ _
    go_wp2
    obtain ⟨W0, hW0⟩ : ∃ W0, W0 = (w.alloc (.cells #[.int .i64 c, .int .i64 d] 37)).drew := ⟨_, rfl⟩
    rw [← hW0]
    have b0 : W0.cell? ⟨w.heap.size, 0, none⟩ = some (.int .i64 c) := by rw [hW0]; go_simp
    have b1 : W0.cell? ⟨w.heap.size, 1, none⟩ = some (.int .i64 d) := by rw [hW0]; go_simp
    have hW : Below w.heap.size w W0 := by rw [hW0]; go_grown
    have hWz := hW.size
    have hbz : w.heap.size < W0.heap.size := by rw [hW0]; simp
    have HS1 := Lib.hid (show SrcP W0 (.slice none 0 0) (xs.take m) from .inl ⟨rfl, by rw [HX.out.1, HX.out.2]; rfl⟩)
    have HS2 := Lib.hid (show SrcP W0 (.slice none 0 0) (xs.drop m) from .inl ⟨rfl, by rw [HX.out.1, HX.out.2]; rfl⟩)
    clear hW0
    refine wp_region_held_drew (S := fun w' => Below W0.heap.size W0 w' ∧ w'.cell? ⟨w.heap.size, 0, none⟩ = some (.int .i64 c) ∧ w'.cell? ⟨w.heap.size, 1, none⟩ = some (.int .i64 d)) (by kernel_rfl) (by (try dsimp only); exact keepS b0 b1 (by go_grown)) (fun hHeld => ?_)
    refine wpAnyH_take (i := 1) (v := ?v31) rfl (by kernel_rfl) (by kernel_rfl) (by kernel_rfl) (fun _ _ _ h => h) (Or.inl ⟨by rfl, ?hy31⟩) (by assumption) ?rest31
    case hy31 => (intro w hSw; (try dsimp only at hSw); go_simp; (try with_reducible rfl))
    simp only [Act.put, List.getElem_toArray, List.getElem_cons_zero, List.getElem_cons_succ, List.setIfInBounds_toArray, List.set_cons_zero, List.set_cons_succ]
    refine wpAnyH_take (i := 2) (v := ?v32) rfl (by kernel_rfl) (by kernel_rfl) (by kernel_rfl) (fun _ _ _ h => h) (Or.inl ⟨by rfl, ?hy32⟩) (by assumption) ?rest32
    case hy32 => (intro w hSw; (try dsimp only at hSw); go_simp; (try with_reducible rfl))
    simp only [Act.put, List.getElem_toArray, List.getElem_cons_zero, List.getElem_cons_succ, List.setIfInBounds_toArray, List.set_cons_zero, List.set_cons_succ]
    refine wpAnyH_take (i := 3) (v := ?v33) rfl (by kernel_rfl) (by kernel_rfl) (by kernel_rfl) (fun _ _ _ h => h) (Or.inl ⟨by rfl, ?hy33⟩) (by assumption) ?rest33
    case hy33 => (intro w hSw; (try dsimp only at hSw); go_simp; (try with_reducible rfl))
    simp only [Act.put, List.getElem_toArray, List.getElem_cons_zero, List.getElem_cons_succ, List.setIfInBounds_toArray, List.set_cons_zero, List.set_cons_succ]
    refine wpAnyH_take (i := 5) (v := ?v34) rfl (by kernel_rfl) (by kernel_rfl) (by kernel_rfl) (fun _ _ _ h => h) (Or.inl ⟨by rfl, ?hy34⟩) (by assumption) ?rest34
    case hy34 => (intro w hSw; (try dsimp only at hSw); go_simp; (try with_reducible rfl))
    simp only [Act.put, List.getElem_toArray, List.getElem_cons_zero, List.getElem_cons_succ, List.setIfInBounds_toArray, List.set_cons_zero, List.set_cons_succ]
    refine wpAnyH_ready (rs := [0, 6]) (by kernel_rfl) (by simp) ?_
    refine AllReadyH.cons rfl (fun K hK => ?_) (AllReadyH.cons rfl (fun K hK => ?_) AllReadyH.nil)
    · skip
      simp only [List.getElem_toArray, List.getElem_cons_zero]
      go_simp
      refine hK.out _ _ (by (try dsimp only); exact keepS b0 b1 (by go_grown)) (fun hHeld => ?_)
      clear hK K
      have hI0 := Lib.hid (Pairs.boxed W0.drew W0.heap.size 37 [] (Nat.le_refl _) (by simp))
      refine wpAnyH_ready (rs := [4, 6]) (by kernel_rfl) (by simp) ?_
      refine AllReadyH.cons rfl (fun K hK => ?_) (AllReadyH.cons rfl (fun K hK => ?_) AllReadyH.nil)
      · skip
        simp only [List.getElem_toArray, List.getElem_cons_zero, List.getElem_cons_succ]
        rw [if_pos (by rfl)]; refine wp_append_pairs (.tmp 21) (.tmp 24) 25 rfl W0.heap.size 37 Try.underlying25 info_thread (.slice (some ⟨W0.heap.size, 0, none⟩) 0 0) (.slice none 0 0) [] (xs.take m) rfl rfl hI0.out (HS1.out.later hHeld.1) (by simp; omega) hHeld.1.size ?_; intro v2 w2 hI2 hg2 ho2
        refine hK.out _ _ (by (try dsimp only); exact keepS b0 b1 (Pairs.below hI0.out hHeld.1 hHeld.1.size hg2)) (fun hHeld => ?_)
        clear hK K
        simp only [Act.put, List.setIfInBounds_toArray, List.set_cons_zero, List.set_cons_succ]
        have hb2' := hHeld.1
        refine wpAnyH_ready (rs := [6]) (by kernel_rfl) (by simp) ?_
        refine AllReadyH.cons rfl (fun K hK => ?_) AllReadyH.nil
        simp only [List.getElem_toArray, List.getElem_cons_zero, List.getElem_cons_succ]
        go_simp
        refine hK.out _ _ (by (try dsimp only); exact keepS b0 b1 (hb2'.alloc hb2'.size _)) (fun hHeld => ?_)
        clear hK K
        have hC := Pairs.boxed w2 W0.heap.size 37 [(c, d)] (by have := hb2'.size; omega) (by simp)
        refine wpAnyH_ready (rs := [7]) (by kernel_rfl) (by simp) ?_
        refine AllReadyH.cons rfl (fun K hK => ?_) AllReadyH.nil
        simp only [List.getElem_toArray, List.getElem_cons_zero, List.getElem_cons_succ]
        rw [if_pos (by rfl)]; refine wp_append_pairs (.tmp 25) (.tmp 27) 25 rfl W0.heap.size 37 Try.underlying25 info_thread v2 (.slice (some ⟨w2.heap.size, 0, none⟩) 1 1) ([] ++ xs.take m) [(c, d)] rfl rfl (hI2.later ((Below.refl _ _).alloc (Nat.le_refl _) _)) (Pairs.src hC) (by simp; omega) hHeld.1.size ?_; intro v3 w3 hI3 hg3 ho3
        refine hK.out _ _ (by (try dsimp only); exact keepS b0 b1 (Pairs.below (hI2.later ((Below.refl _ _).alloc (Nat.le_refl _) _)) hHeld.1 hHeld.1.size hg3)) (fun hHeld => ?_)
        clear hK K
        simp only [Act.put, List.setIfInBounds_toArray, List.set_cons_zero, List.set_cons_succ]
        refine wpAnyH_take (i := 8) (v := ?v35) rfl (by kernel_rfl) (by kernel_rfl) (by kernel_rfl) (fun _ _ _ h => h) (Or.inl ⟨by rfl, ?hy35⟩) (by assumption) ?rest35
        case hy35 => (intro w hSw; (try dsimp only at hSw); go_simp; (try with_reducible rfl))
        simp only [Act.put, List.getElem_toArray, List.getElem_cons_zero, List.getElem_cons_succ, List.setIfInBounds_toArray, List.set_cons_zero, List.set_cons_succ]
        refine wpAnyH_done (by kernel_rfl) ?_ _
        have HS3 := Lib.hid (HS2.out.later hHeld.1)
        have HN := Lib.hid hI3
        have HB := hHeld.1
        have hz3 := HB.size
        clear hHeld
        go_wp2_with (at_builtin; refine wpList_append_pairs rfl _ _ 25 rfl W0.heap.size 37 Try.underlying25 info_thread v3 _ ([] ++ xs.take m ++ [(c, d)]) (xs.drop m) rfl rfl HN.out HS3.out (by simp; omega) hz3 ?_; intro v4 w4 hI4 hg4 _; have H4 := Lib.hid hI4; have HB4 := Pairs.below HN.out HB hz3 hg4; clear hI4 hg4)
        go_ret
        exact ⟨_, rfl, ⟨H4.out.mono hWz, fun b hb => (H4.out.own b hb).2⟩, hW.trans (HB4.mono hWz)⟩
      · skip
        simp only [List.getElem_toArray, List.getElem_cons_zero, List.getElem_cons_succ]
        go_simp
        refine hK.out _ _ (by (try dsimp only); exact keepS b0 b1 (by go_grown)) (fun hHeld => ?_)
        clear hK K
        have hC := Pairs.boxedAt (W0.drew.alloc (.cells #[] 37)) W0.heap.size 37 [(c, d)] (W0.heap.size + 1) (by simp) (by omega) (by simp)
        have hI0' := hI0.out.later (w' := (W0.drew.alloc (.cells #[] 37)).alloc (.cells ((flatP [(c, d)]).map (Value.int .i64)).toArray 37)) ((Below.refl _ _).alloc (Nat.le_refl _) _)
        refine wpAnyH_ready (rs := [4]) (by kernel_rfl) (by simp) ?_
        refine AllReadyH.cons rfl (fun K hK => ?_) AllReadyH.nil
        simp only [List.getElem_toArray, List.getElem_cons_zero, List.getElem_cons_succ]
        rw [if_pos (by rfl)]; refine wp_append_pairs (.tmp 21) (.tmp 24) 25 rfl W0.heap.size 37 Try.underlying25 info_thread (.slice (some ⟨W0.heap.size, 0, none⟩) 0 0) (.slice none 0 0) [] (xs.take m) rfl rfl hI0' (HS1.out.later hHeld.1) (by simp; omega) hHeld.1.size ?_; intro v2 w2 hI2 hg2 ho2
        refine hK.out _ _ (by (try dsimp only); exact keepS b0 b1 (Pairs.below hI0' hHeld.1 hHeld.1.size hg2)) (fun hHeld => ?_)
        clear hK K
        simp only [Act.put, List.setIfInBounds_toArray, List.set_cons_zero, List.set_cons_succ]
        have hC2 := Pairs.keptBut hC hg2 (.inr (by simp [Value.ownBlock]))
        refine wpAnyH_ready (rs := [7]) (by kernel_rfl) (by simp) ?_
        refine AllReadyH.cons rfl (fun K hK => ?_) AllReadyH.nil
        simp only [List.getElem_toArray, List.getElem_cons_zero, List.getElem_cons_succ]
        rw [if_pos (by rfl)]; refine wp_append_pairs (.tmp 25) (.tmp 27) 25 rfl W0.heap.size 37 Try.underlying25 info_thread v2 (.slice (some ⟨(W0.heap.size + 1), 0, none⟩) 1 1) ([] ++ xs.take m) [(c, d)] rfl rfl hI2 (Pairs.src hC2) (by simp; omega) hHeld.1.size ?_; intro v3 w3 hI3 hg3 ho3
        refine hK.out _ _ (by (try dsimp only); exact keepS b0 b1 (Pairs.below hI2 hHeld.1 hHeld.1.size hg3)) (fun hHeld => ?_)
        clear hK K
        simp only [Act.put, List.setIfInBounds_toArray, List.set_cons_zero, List.set_cons_succ]
        refine wpAnyH_take (i := 8) (v := ?v36) rfl (by kernel_rfl) (by kernel_rfl) (by kernel_rfl) (fun _ _ _ h => h) (Or.inl ⟨by rfl, ?hy36⟩) (by assumption) ?rest36
        case hy36 => (intro w hSw; (try dsimp only at hSw); go_simp; (try with_reducible rfl))
        simp only [Act.put, List.getElem_toArray, List.getElem_cons_zero, List.getElem_cons_succ, List.setIfInBounds_toArray, List.set_cons_zero, List.set_cons_succ]
        refine wpAnyH_done (by kernel_rfl) ?_ _
        have HS3 := Lib.hid (HS2.out.later hHeld.1)
        have HN := Lib.hid hI3
        have HB := hHeld.1
        have hz3 := HB.size
        clear hHeld
        go_wp2_with (at_builtin; refine wpList_append_pairs rfl _ _ 25 rfl W0.heap.size 37 Try.underlying25 info_thread v3 _ ([] ++ xs.take m ++ [(c, d)]) (xs.drop m) rfl rfl HN.out HS3.out (by simp; omega) hz3 ?_; intro v4 w4 hI4 hg4 _; have H4 := Lib.hid hI4; have HB4 := Pairs.below HN.out HB hz3 hg4; clear hI4 hg4)
        go_ret
        exact ⟨_, rfl, ⟨H4.out.mono hWz, fun b hb => (H4.out.own b hb).2⟩, hW.trans (HB4.mono hWz)⟩
    · skip
      simp only [List.getElem_toArray, List.getElem_cons_zero, List.getElem_cons_succ]
      go_simp
      refine hK.out _ _ (by (try dsimp only); exact keepS b0 b1 (by go_grown)) (fun hHeld => ?_)
      clear hK K
      have hC := Pairs.boxed W0.drew W0.heap.size 37 [(c, d)] (by simp) (by simp)
      refine wpAnyH_ready (rs := [0]) (by kernel_rfl) (by simp) ?_
      refine AllReadyH.cons rfl (fun K hK => ?_) AllReadyH.nil
      simp only [List.getElem_toArray, List.getElem_cons_zero]
      go_simp
      refine hK.out _ _ (by (try dsimp only); exact keepS b0 b1 (by go_grown)) (fun hHeld => ?_)
      clear hK K
      have hI0' := Pairs.boxedAt (W0.drew.alloc (.cells ((flatP [(c, d)]).map (Value.int .i64)).toArray 37)) W0.heap.size 37 [] (W0.heap.size + 1) (by simp) (by omega) (by simp)
      have hC1 := hC.later (w' := (W0.drew.alloc (.cells ((flatP [(c, d)]).map (Value.int .i64)).toArray 37)).alloc (.cells #[] 37)) ((Below.refl _ _).alloc (Nat.le_refl _) _)
      refine wpAnyH_ready (rs := [4]) (by kernel_rfl) (by simp) ?_
      refine AllReadyH.cons rfl (fun K hK => ?_) AllReadyH.nil
      simp only [List.getElem_toArray, List.getElem_cons_zero, List.getElem_cons_succ]
      rw [if_pos (by rfl)]; refine wp_append_pairs (.tmp 21) (.tmp 24) 25 rfl W0.heap.size 37 Try.underlying25 info_thread (.slice (some ⟨(W0.heap.size + 1), 0, none⟩) 0 0) (.slice none 0 0) [] (xs.take m) rfl rfl hI0' (HS1.out.later hHeld.1) (by simp; omega) hHeld.1.size ?_; intro v2 w2 hI2 hg2 ho2
      refine hK.out _ _ (by (try dsimp only); exact keepS b0 b1 (Pairs.below hI0' hHeld.1 hHeld.1.size hg2)) (fun hHeld => ?_)
      clear hK K
      simp only [Act.put, List.setIfInBounds_toArray, List.set_cons_zero, List.set_cons_succ]
      have hC2 := Pairs.keptBut hC1 hg2 (.inr (by simp [Value.ownBlock]))
      refine wpAnyH_ready (rs := [7]) (by kernel_rfl) (by simp) ?_
      refine AllReadyH.cons rfl (fun K hK => ?_) AllReadyH.nil
      simp only [List.getElem_toArray, List.getElem_cons_zero, List.getElem_cons_succ]
      rw [if_pos (by rfl)]; refine wp_append_pairs (.tmp 25) (.tmp 27) 25 rfl W0.heap.size 37 Try.underlying25 info_thread v2 (.slice (some ⟨W0.heap.size, 0, none⟩) 1 1) ([] ++ xs.take m) [(c, d)] rfl rfl hI2 (Pairs.src hC2) (by simp; omega) hHeld.1.size ?_; intro v3 w3 hI3 hg3 ho3
      refine hK.out _ _ (by (try dsimp only); exact keepS b0 b1 (Pairs.below hI2 hHeld.1 hHeld.1.size hg3)) (fun hHeld => ?_)
      clear hK K
      simp only [Act.put, List.setIfInBounds_toArray, List.set_cons_zero, List.set_cons_succ]
      refine wpAnyH_take (i := 8) (v := ?v37) rfl (by kernel_rfl) (by kernel_rfl) (by kernel_rfl) (fun _ _ _ h => h) (Or.inl ⟨by rfl, ?hy37⟩) (by assumption) ?rest37
      case hy37 => (intro w hSw; (try dsimp only at hSw); go_simp; (try with_reducible rfl))
      simp only [Act.put, List.getElem_toArray, List.getElem_cons_zero, List.getElem_cons_succ, List.setIfInBounds_toArray, List.set_cons_zero, List.set_cons_succ]
      refine wpAnyH_done (by kernel_rfl) ?_ _
      have HS3 := Lib.hid (HS2.out.later hHeld.1)
      have HN := Lib.hid hI3
      have HB := hHeld.1
      have hz3 := HB.size
      clear hHeld
      go_wp2_with (at_builtin; refine wpList_append_pairs rfl _ _ 25 rfl W0.heap.size 37 Try.underlying25 info_thread v3 _ ([] ++ xs.take m ++ [(c, d)]) (xs.drop m) rfl rfl HN.out HS3.out (by simp; omega) hz3 ?_; intro v4 w4 hI4 hg4 _; have H4 := Lib.hid hI4; have HB4 := Pairs.below HN.out HB hz3 hg4; clear hI4 hg4)
      go_ret
      exact ⟨_, rfl, ⟨H4.out.mono hWz, fun b hb => (H4.out.own b hb).2⟩, hW.trans (HB4.mono hWz)⟩

set_option maxHeartbeats 2000000 in
theorem sgPut_some (g cap : Nat) (xs : List (Int × Int)) (c d : Int) (B T : Nat) (w : World) (h : PairsIn 37 w B T (.slice (some ⟨g, 0, none⟩) xs.length cap) xs) (hT : T ≤ w.heap.size) (hn : xs.length ≤ 1000000) (hlc : xs.length ≤ cap) (hcm : cap ≤ maxLen) :
    Calls Try.prog 69 #[.slice (some ⟨g, 0, none⟩) xs.length cap, .agg #[.int .i64 c, .int .i64 d]] w fun e w' => ∃ v', e = .returned v' ∧ PairsIn 37 w' w.heap.size w'.heap.size v' (xs.take (headC (c, d) xs) ++ [(c, d)] ++ xs.drop (headC (c, d) xs)) ∧ Below w.heap.size w w' := by
  unfold maxLen at hcm
  have hg : g < T := h.2 g rfl
  have HS := Lib.hid h.1.src
  have hx1 := h.1.cell0
  have hy1 := h.1.cell1
  clear h
  have hb0 : Below w.heap.size w (w.alloc (.cells #[.int .i64 c, .int .i64 d] 37)) := (Below.refl _ _).alloc (Nat.le_refl _) _
  have X := Lib.hid (fun i (hi : i < xs.length) => cellB hb0 (hx1 i hi))
  have Y := Lib.hid (fun i (hi : i < xs.length) => cellB hb0 (hy1 i hi))
  have HL := Lib.hid (headC_less (c, d) xs)
  have HSt := Lib.hid (headC_stop (c, d) xs)
  have hml := headC_le (c, d) xs
  obtain ⟨m, hm⟩ : ∃ m, m = headC (c, d) xs := ⟨_, rfl⟩
  rw [← hm] at HL HSt hml ⊢
  clear hx1 hy1 hm hb0
  have p0 : (w.alloc (.cells #[.int .i64 c, .int .i64 d] 37)).cell? ⟨w.heap.size, 0, none⟩ = some (.int .i64 c) := by go_simp
  have q0 : (w.alloc (.cells #[.int .i64 c, .int .i64 d] 37)).cell? ⟨w.heap.size, 1, none⟩ = some (.int .i64 d) := by go_simp
  have P0 := Lib.hid p0
  have Q0 := Lib.hid q0
  clear p0 q0
  go_enter Try.func69, Try.ntmps69
  go_wp2
  go_loopw [5] (fun i wr => ∃ k : Nat, k ≤ m ∧ i = .int .i64 k ∧ Below (w.heap.size + 1) (w.alloc (.cells #[.int .i64 c, .int .i64 d] 37)) wr) (fun i _ => m - (intOf i).toNat)
  case atStart => exact ⟨0, by omega, rfl, Below.refl _ _⟩
  case round =>
    obtain ⟨k, hkm, rfl, hB⟩ := hrel
    have hz := hB.size
    simp only [World.size_alloc] at hz
    have p1 : wr.cell? ⟨w.heap.size, 0, none⟩ = some (.int .i64 c) := (hB.cell (p := ⟨w.heap.size, 0, none⟩) (by show w.heap.size < _; omega)).trans P0.out
    have q1 : wr.cell? ⟨w.heap.size, 1, none⟩ = some (.int .i64 d) := (hB.cell (p := ⟨w.heap.size, 1, none⟩) (by show w.heap.size < _; omega)).trans Q0.out
    have hBw : Below w.heap.size w wr := Below.trans ((Below.refl _ _).alloc (Nat.le_refl _) _) (hB.mono (by omega))
    have hi1 : 0 ≤ (k : Int) := by omega
    by_cases hkl : k < xs.length
    · have hi2 : (k : Int) < (xs.length : Int) := by omega
      have cx : wr.cell? ⟨g, k * 2, none⟩ = some (.int .i64 (xs.getD k (0, 0)).1) := (hB.cell (p := ⟨g, k * 2, none⟩) (by show g < _; omega)).trans (X.out k (by omega))
      have cy : wr.cell? ⟨g, k * 2 + 1, none⟩ = some (.int .i64 (xs.getD k (0, 0)).2) := (hB.cell (p := ⟨g, k * 2 + 1, none⟩) (by show g < _; omega)).trans (Y.out k (by omega))
      obtain ⟨x, y, hxy⟩ : ∃ x y, xs.getD k (0, 0) = (x, y) := ⟨_, _, rfl⟩
      rw [hxy] at cx cy
      simp only at cx cy
      by_cases hkk : k = m
      · subst hkk
        have hS := HSt.out hkl
        rw [hxy] at hS
        have HSS := Lib.hid hS
        clear hS hxy
        go_wp2
        go_region_held3 (fun w' => w'.cell? ⟨g, k * 2, none⟩ = some (.int .i64 x) ∧ w'.cell? ⟨g, k * 2 + 1, none⟩ = some (.int .i64 y) ∧ w'.cell? ⟨w.heap.size, 0, none⟩ = some (.int .i64 c) ∧ w'.cell? ⟨w.heap.size, 1, none⟩ = some (.int .i64 d)) (go_keep)
          (first | (go_at_call 77; refine (sgLess_any _ _ _ _ _).mono ?_; rintro e w1 ⟨rfl, hb⟩; rw [HSS.out]; have d1 := cellB hb cx; have d2 := cellB hb cy; have d3 := cellB hb p1; have d4 := cellB hb q1; (have hB2 : Below (w.heap.size + 1) (w.alloc (.cells #[.int .i64 c, .int .i64 d] 37)) w1 := by (refine Below.trans ?_ (hb.mono (by first | exact hz | (simp; omega))); go_grown))))
        go_wp2
        have hkc : (k : Int) ≤ (cap : Int) := by omega
        have hkl2 : (k : Int) ≤ (xs.length : Int) := by omega
        have hlc2 : (xs.length : Int) ≤ (cap : Int) := by omega
        obtain ⟨W0, hW0⟩ : ∃ W0, W0 = w1 := ⟨_, rfl⟩
        rw [← hW0]
        have b0 : W0.cell? ⟨w.heap.size, 0, none⟩ = some (.int .i64 c) := by rw [hW0]; exact d3
        have b1 : W0.cell? ⟨w.heap.size, 1, none⟩ = some (.int .i64 d) := by rw [hW0]; exact d4
        have hW : Below w.heap.size w W0 := by rw [hW0]; exact Below.trans ((Below.refl _ _).alloc (Nat.le_refl _) _) (hB2.mono (by omega))
        have hWz := hW.size
        have hbz : w.heap.size < W0.heap.size := by rw [hW0]; have := hB2.size; simp at this; omega
        have HS1 := Lib.hid (src_take (xs := xs) (k := k) (HS.out.later hW) (by omega))
        have HS2 := Lib.hid (fun c' => src_drop (xs := xs) (k := k) (c' := c') (HS.out.later hW) (by omega))
        have HU2 := Lib.hid (fun c' => src_drop_if (xs := xs) (k := k) (c' := c') (HS.out.later hW) (by omega) hlc)
        have HT2 := Lib.hid (fun (c' : Nat) (e : cap = k) => show SrcP W0 (.slice (some ⟨g, 0, none⟩) (xs.length - k) c') (xs.drop k) by have := src_drop_if (xs := xs) (k := k) (c' := c') (HS.out.later hW) (by omega) hlc; rwa [if_pos e] at this)
        clear hW0

        refine wp_region_held_drew (S := fun w' => Below W0.heap.size W0 w' ∧ w'.cell? ⟨w.heap.size, 0, none⟩ = some (.int .i64 c) ∧ w'.cell? ⟨w.heap.size, 1, none⟩ = some (.int .i64 d)) (by kernel_rfl) (by (try dsimp only); exact keepS b0 b1 (by go_grown)) (fun hHeld => ?_)
        refine wpAnyH_take (i := 1) (v := ?v38) rfl (by kernel_rfl) (by kernel_rfl) (by kernel_rfl) (fun _ _ _ h => h) (Or.inl ⟨by rfl, ?hy38⟩) (by assumption) ?rest38
        case hy38 => (intro w hSw; (try dsimp only at hSw); go_simp; (try with_reducible rfl))
        simp only [Act.put, List.getElem_toArray, List.getElem_cons_zero, List.getElem_cons_succ, List.setIfInBounds_toArray, List.set_cons_zero, List.set_cons_succ]
        refine wpAnyH_take (i := 2) (v := ?v39) rfl (by kernel_rfl) (by kernel_rfl) (by kernel_rfl) (fun _ _ _ h => h) (Or.inl ⟨by rfl, ?hy39⟩) (by assumption) ?rest39
        case hy39 => (intro w hSw; (try dsimp only at hSw); go_simp; (try with_reducible rfl))
        simp only [Act.put, List.getElem_toArray, List.getElem_cons_zero, List.getElem_cons_succ, List.setIfInBounds_toArray, List.set_cons_zero, List.set_cons_succ]
        refine wpAnyH_take (i := 3) (v := ?v40) rfl (by kernel_rfl) (by kernel_rfl) (by kernel_rfl) (fun _ _ _ h => h) (Or.inl ⟨by rfl, ?hy40⟩) (by assumption) ?rest40
        case hy40 => (intro w hSw; (try dsimp only at hSw); go_simp; (try with_reducible rfl))
        simp only [Act.put, List.getElem_toArray, List.getElem_cons_zero, List.getElem_cons_succ, List.setIfInBounds_toArray, List.set_cons_zero, List.set_cons_succ]
        refine wpAnyH_take (i := 5) (v := ?v41) rfl (by kernel_rfl) (by kernel_rfl) (by kernel_rfl) (fun _ _ _ h => h) (Or.inl ⟨by rfl, ?hy41⟩) (by assumption) ?rest41
        case hy41 => (intro w hSw; (try dsimp only at hSw); go_simp; (try with_reducible rfl))
        simp only [Act.put, List.getElem_toArray, List.getElem_cons_zero, List.getElem_cons_succ, List.setIfInBounds_toArray, List.set_cons_zero, List.set_cons_succ]
        refine wpAnyH_ready (rs := [0, 6]) (by kernel_rfl) (by simp) ?_
        refine AllReadyH.cons rfl (fun K hK => ?_) (AllReadyH.cons rfl (fun K hK => ?_) AllReadyH.nil)
        · skip
          simp only [List.getElem_toArray, List.getElem_cons_zero]
          go_simp
          refine hK.out _ _ (by (try dsimp only); exact keepS b0 b1 (by go_grown)) (fun hHeld => ?_)
          clear hK K
          have hI0 := Lib.hid (Pairs.boxed W0.drew W0.heap.size 37 [] (Nat.le_refl _) (by simp))
          refine wpAnyH_ready (rs := [4, 6]) (by kernel_rfl) (by simp) ?_
          refine AllReadyH.cons rfl (fun K hK => ?_) (AllReadyH.cons rfl (fun K hK => ?_) AllReadyH.nil)
          · skip
            simp only [List.getElem_toArray, List.getElem_cons_zero, List.getElem_cons_succ]
            rw [if_pos (by rfl)]; refine wp_append_pairs (.tmp 21) (.tmp 24) 25 rfl W0.heap.size 37 Try.underlying25 info_thread (.slice (some ⟨W0.heap.size, 0, none⟩) 0 0) (.slice (some ⟨g, 0, none⟩) k cap) [] (xs.take k) rfl rfl hI0.out (HS1.out.later hHeld.1) (by simp; omega) hHeld.1.size ?_; intro v2 w2 hI2 hg2 ho2
            refine hK.out _ _ (by (try dsimp only); exact keepS b0 b1 (Pairs.below hI0.out hHeld.1 hHeld.1.size hg2)) (fun hHeld => ?_)
            clear hK K
            simp only [Act.put, List.setIfInBounds_toArray, List.set_cons_zero, List.set_cons_succ]
            have hb2' := hHeld.1
            refine wpAnyH_ready (rs := [6]) (by kernel_rfl) (by simp) ?_
            refine AllReadyH.cons rfl (fun K hK => ?_) AllReadyH.nil
            simp only [List.getElem_toArray, List.getElem_cons_zero, List.getElem_cons_succ]
            go_simp
            refine hK.out _ _ (by (try dsimp only); exact keepS b0 b1 (hb2'.alloc hb2'.size _)) (fun hHeld => ?_)
            clear hK K
            have hC := Pairs.boxed w2 W0.heap.size 37 [(c, d)] (by have := hb2'.size; omega) (by simp)
            refine wpAnyH_ready (rs := [7]) (by kernel_rfl) (by simp) ?_
            refine AllReadyH.cons rfl (fun K hK => ?_) AllReadyH.nil
            simp only [List.getElem_toArray, List.getElem_cons_zero, List.getElem_cons_succ]
            rw [if_pos (by rfl)]; refine wp_append_pairs (.tmp 25) (.tmp 27) 25 rfl W0.heap.size 37 Try.underlying25 info_thread v2 (.slice (some ⟨w2.heap.size, 0, none⟩) 1 1) ([] ++ xs.take k) [(c, d)] rfl rfl (hI2.later ((Below.refl _ _).alloc (Nat.le_refl _) _)) (Pairs.src hC) (by simp; omega) hHeld.1.size ?_; intro v3 w3 hI3 hg3 ho3
            refine hK.out _ _ (by (try dsimp only); exact keepS b0 b1 (Pairs.below (hI2.later ((Below.refl _ _).alloc (Nat.le_refl _) _)) hHeld.1 hHeld.1.size hg3)) (fun hHeld => ?_)
            clear hK K
            simp only [Act.put, List.setIfInBounds_toArray, List.set_cons_zero, List.set_cons_succ]
            refine wpAnyH_take (i := 8) (v := ?v42) rfl (by kernel_rfl) (by kernel_rfl) (by kernel_rfl) (fun _ _ _ h => h) (Or.inl ⟨by rfl, ?hy42⟩) (by assumption) ?rest42
            case hy42 => (intro w hSw; (try dsimp only at hSw); go_simp; (try with_reducible rfl))
            simp only [Act.put, List.getElem_toArray, List.getElem_cons_zero, List.getElem_cons_succ, List.setIfInBounds_toArray, List.set_cons_zero, List.set_cons_succ]
            refine wpAnyH_done (by kernel_rfl) ?_ _
            have HS3 := Lib.hid (fun c' => (HS2.out c').later hHeld.1)
            have HT3 := Lib.hid (fun c' e => (HT2.out c' e).later hHeld.1)
            have HU3 := Lib.hid (fun c' => (HU2.out c').later hHeld.1)
            have HN := Lib.hid hI3
            have HB := hHeld.1
            have hz3 := HB.size
            clear hHeld
            go_wp2_with (first | (at_builtin; refine wpList_append_pairs rfl _ _ 25 rfl W0.heap.size 37 Try.underlying25 info_thread v3 _ _ _ rfl rfl HN.out (HS3.out _) (by simp; omega) hz3 ?_; intro v4 w4 hI4 hg4 _; have H4 := Lib.hid hI4; have HB4 := Pairs.below HN.out HB hz3 hg4; clear hI4 hg4) | (at_builtin; refine wpList_append_pairs rfl _ _ 25 rfl W0.heap.size 37 Try.underlying25 info_thread v3 _ _ _ rfl rfl HN.out (HT3.out _ (by first | assumption | rfl)) (by simp; omega) hz3 ?_; intro v4 w4 hI4 hg4 _; have H4 := Lib.hid hI4; have HB4 := Pairs.below HN.out HB hz3 hg4; clear hI4 hg4) | (at_builtin; refine wpList_append_pairs rfl _ _ 25 rfl W0.heap.size 37 Try.underlying25 info_thread v3 _ _ _ rfl rfl HN.out (HS3.out _) (by simp; omega) hz3 ?_; intro v4 w4 hI4 hg4 _; have H4 := Lib.hid hI4; have HB4 := Pairs.below HN.out HB hz3 hg4; clear hI4 hg4) | (at_builtin; refine wpList_append_pairs rfl _ _ 25 rfl W0.heap.size 37 Try.underlying25 info_thread v3 _ _ _ rfl rfl HN.out (HU3.out _) (by simp; omega) hz3 ?_; intro v4 w4 hI4 hg4 _; have H4 := Lib.hid hI4; have HB4 := Pairs.below HN.out HB hz3 hg4; clear hI4 hg4))
            all_goals
              go_ret
              exact ⟨_, rfl, ⟨by first | exact H4.out.mono hWz | (have hh := H4.out.mono hWz; rw [List.nil_append, List.append_assoc, List.singleton_append] at hh; exact hh), fun b hb => (H4.out.own b hb).2⟩, hW.trans (HB4.mono hWz)⟩
          · skip
            simp only [List.getElem_toArray, List.getElem_cons_zero, List.getElem_cons_succ]
            go_simp
            refine hK.out _ _ (by (try dsimp only); exact keepS b0 b1 (by go_grown)) (fun hHeld => ?_)
            clear hK K
            have hC := Pairs.boxedAt (W0.drew.alloc (.cells #[] 37)) W0.heap.size 37 [(c, d)] (W0.heap.size + 1) (by simp) (by omega) (by simp)
            have hI0' := hI0.out.later (w' := (W0.drew.alloc (.cells #[] 37)).alloc (.cells ((flatP [(c, d)]).map (Value.int .i64)).toArray 37)) ((Below.refl _ _).alloc (Nat.le_refl _) _)
            refine wpAnyH_ready (rs := [4]) (by kernel_rfl) (by simp) ?_
            refine AllReadyH.cons rfl (fun K hK => ?_) AllReadyH.nil
            simp only [List.getElem_toArray, List.getElem_cons_zero, List.getElem_cons_succ]
            rw [if_pos (by rfl)]; refine wp_append_pairs (.tmp 21) (.tmp 24) 25 rfl W0.heap.size 37 Try.underlying25 info_thread (.slice (some ⟨W0.heap.size, 0, none⟩) 0 0) (.slice (some ⟨g, 0, none⟩) k cap) [] (xs.take k) rfl rfl hI0' (HS1.out.later hHeld.1) (by simp; omega) hHeld.1.size ?_; intro v2 w2 hI2 hg2 ho2
            refine hK.out _ _ (by (try dsimp only); exact keepS b0 b1 (Pairs.below hI0' hHeld.1 hHeld.1.size hg2)) (fun hHeld => ?_)
            clear hK K
            simp only [Act.put, List.setIfInBounds_toArray, List.set_cons_zero, List.set_cons_succ]
            have hC2 := Pairs.keptBut hC hg2 (.inr (by simp [Value.ownBlock]))
            refine wpAnyH_ready (rs := [7]) (by kernel_rfl) (by simp) ?_
            refine AllReadyH.cons rfl (fun K hK => ?_) AllReadyH.nil
            simp only [List.getElem_toArray, List.getElem_cons_zero, List.getElem_cons_succ]
            rw [if_pos (by rfl)]; refine wp_append_pairs (.tmp 25) (.tmp 27) 25 rfl W0.heap.size 37 Try.underlying25 info_thread v2 (.slice (some ⟨(W0.heap.size + 1), 0, none⟩) 1 1) ([] ++ xs.take k) [(c, d)] rfl rfl hI2 (Pairs.src hC2) (by simp; omega) hHeld.1.size ?_; intro v3 w3 hI3 hg3 ho3
            refine hK.out _ _ (by (try dsimp only); exact keepS b0 b1 (Pairs.below hI2 hHeld.1 hHeld.1.size hg3)) (fun hHeld => ?_)
            clear hK K
            simp only [Act.put, List.setIfInBounds_toArray, List.set_cons_zero, List.set_cons_succ]
            refine wpAnyH_take (i := 8) (v := ?v43) rfl (by kernel_rfl) (by kernel_rfl) (by kernel_rfl) (fun _ _ _ h => h) (Or.inl ⟨by rfl, ?hy43⟩) (by assumption) ?rest43
            case hy43 => (intro w hSw; (try dsimp only at hSw); go_simp; (try with_reducible rfl))
            simp only [Act.put, List.getElem_toArray, List.getElem_cons_zero, List.getElem_cons_succ, List.setIfInBounds_toArray, List.set_cons_zero, List.set_cons_succ]
            refine wpAnyH_done (by kernel_rfl) ?_ _
            have HS3 := Lib.hid (fun c' => (HS2.out c').later hHeld.1)
            have HT3 := Lib.hid (fun c' e => (HT2.out c' e).later hHeld.1)
            have HU3 := Lib.hid (fun c' => (HU2.out c').later hHeld.1)
            have HN := Lib.hid hI3
            have HB := hHeld.1
            have hz3 := HB.size
            clear hHeld
            go_wp2_with (first | (at_builtin; refine wpList_append_pairs rfl _ _ 25 rfl W0.heap.size 37 Try.underlying25 info_thread v3 _ _ _ rfl rfl HN.out (HS3.out _) (by simp; omega) hz3 ?_; intro v4 w4 hI4 hg4 _; have H4 := Lib.hid hI4; have HB4 := Pairs.below HN.out HB hz3 hg4; clear hI4 hg4) | (at_builtin; refine wpList_append_pairs rfl _ _ 25 rfl W0.heap.size 37 Try.underlying25 info_thread v3 _ _ _ rfl rfl HN.out (HT3.out _ (by first | assumption | rfl)) (by simp; omega) hz3 ?_; intro v4 w4 hI4 hg4 _; have H4 := Lib.hid hI4; have HB4 := Pairs.below HN.out HB hz3 hg4; clear hI4 hg4) | (at_builtin; refine wpList_append_pairs rfl _ _ 25 rfl W0.heap.size 37 Try.underlying25 info_thread v3 _ _ _ rfl rfl HN.out (HS3.out _) (by simp; omega) hz3 ?_; intro v4 w4 hI4 hg4 _; have H4 := Lib.hid hI4; have HB4 := Pairs.below HN.out HB hz3 hg4; clear hI4 hg4) | (at_builtin; refine wpList_append_pairs rfl _ _ 25 rfl W0.heap.size 37 Try.underlying25 info_thread v3 _ _ _ rfl rfl HN.out (HU3.out _) (by simp; omega) hz3 ?_; intro v4 w4 hI4 hg4 _; have H4 := Lib.hid hI4; have HB4 := Pairs.below HN.out HB hz3 hg4; clear hI4 hg4))
            all_goals
              go_ret
              exact ⟨_, rfl, ⟨by first | exact H4.out.mono hWz | (have hh := H4.out.mono hWz; rw [List.nil_append, List.append_assoc, List.singleton_append] at hh; exact hh), fun b hb => (H4.out.own b hb).2⟩, hW.trans (HB4.mono hWz)⟩
        · skip
          simp only [List.getElem_toArray, List.getElem_cons_zero, List.getElem_cons_succ]
          go_simp
          refine hK.out _ _ (by (try dsimp only); exact keepS b0 b1 (by go_grown)) (fun hHeld => ?_)
          clear hK K
          have hC := Pairs.boxed W0.drew W0.heap.size 37 [(c, d)] (by simp) (by simp)
          refine wpAnyH_ready (rs := [0]) (by kernel_rfl) (by simp) ?_
          refine AllReadyH.cons rfl (fun K hK => ?_) AllReadyH.nil
          simp only [List.getElem_toArray, List.getElem_cons_zero]
          go_simp
          refine hK.out _ _ (by (try dsimp only); exact keepS b0 b1 (by go_grown)) (fun hHeld => ?_)
          clear hK K
          have hI0' := Pairs.boxedAt (W0.drew.alloc (.cells ((flatP [(c, d)]).map (Value.int .i64)).toArray 37)) W0.heap.size 37 [] (W0.heap.size + 1) (by simp) (by omega) (by simp)
          have hC1 := hC.later (w' := (W0.drew.alloc (.cells ((flatP [(c, d)]).map (Value.int .i64)).toArray 37)).alloc (.cells #[] 37)) ((Below.refl _ _).alloc (Nat.le_refl _) _)
          refine wpAnyH_ready (rs := [4]) (by kernel_rfl) (by simp) ?_
          refine AllReadyH.cons rfl (fun K hK => ?_) AllReadyH.nil
          simp only [List.getElem_toArray, List.getElem_cons_zero, List.getElem_cons_succ]
          rw [if_pos (by rfl)]; refine wp_append_pairs (.tmp 21) (.tmp 24) 25 rfl W0.heap.size 37 Try.underlying25 info_thread (.slice (some ⟨(W0.heap.size + 1), 0, none⟩) 0 0) (.slice (some ⟨g, 0, none⟩) k cap) [] (xs.take k) rfl rfl hI0' (HS1.out.later hHeld.1) (by simp; omega) hHeld.1.size ?_; intro v2 w2 hI2 hg2 ho2
          refine hK.out _ _ (by (try dsimp only); exact keepS b0 b1 (Pairs.below hI0' hHeld.1 hHeld.1.size hg2)) (fun hHeld => ?_)
          clear hK K
          simp only [Act.put, List.setIfInBounds_toArray, List.set_cons_zero, List.set_cons_succ]
          have hC2 := Pairs.keptBut hC1 hg2 (.inr (by simp [Value.ownBlock]))
          refine wpAnyH_ready (rs := [7]) (by kernel_rfl) (by simp) ?_
          refine AllReadyH.cons rfl (fun K hK => ?_) AllReadyH.nil
          simp only [List.getElem_toArray, List.getElem_cons_zero, List.getElem_cons_succ]
          rw [if_pos (by rfl)]; refine wp_append_pairs (.tmp 25) (.tmp 27) 25 rfl W0.heap.size 37 Try.underlying25 info_thread v2 (.slice (some ⟨W0.heap.size, 0, none⟩) 1 1) ([] ++ xs.take k) [(c, d)] rfl rfl hI2 (Pairs.src hC2) (by simp; omega) hHeld.1.size ?_; intro v3 w3 hI3 hg3 ho3
          refine hK.out _ _ (by (try dsimp only); exact keepS b0 b1 (Pairs.below hI2 hHeld.1 hHeld.1.size hg3)) (fun hHeld => ?_)
          clear hK K
          simp only [Act.put, List.setIfInBounds_toArray, List.set_cons_zero, List.set_cons_succ]
          refine wpAnyH_take (i := 8) (v := ?v44) rfl (by kernel_rfl) (by kernel_rfl) (by kernel_rfl) (fun _ _ _ h => h) (Or.inl ⟨by rfl, ?hy44⟩) (by assumption) ?rest44
          case hy44 => (intro w hSw; (try dsimp only at hSw); go_simp; (try with_reducible rfl))
          simp only [Act.put, List.getElem_toArray, List.getElem_cons_zero, List.getElem_cons_succ, List.setIfInBounds_toArray, List.set_cons_zero, List.set_cons_succ]
          refine wpAnyH_done (by kernel_rfl) ?_ _
          have HS3 := Lib.hid (fun c' => (HS2.out c').later hHeld.1)
          have HT3 := Lib.hid (fun c' e => (HT2.out c' e).later hHeld.1)
          have HU3 := Lib.hid (fun c' => (HU2.out c').later hHeld.1)
          have HN := Lib.hid hI3
          have HB := hHeld.1
          have hz3 := HB.size
          clear hHeld
          go_wp2_with (first | (at_builtin; refine wpList_append_pairs rfl _ _ 25 rfl W0.heap.size 37 Try.underlying25 info_thread v3 _ _ _ rfl rfl HN.out (HS3.out _) (by simp; omega) hz3 ?_; intro v4 w4 hI4 hg4 _; have H4 := Lib.hid hI4; have HB4 := Pairs.below HN.out HB hz3 hg4; clear hI4 hg4) | (at_builtin; refine wpList_append_pairs rfl _ _ 25 rfl W0.heap.size 37 Try.underlying25 info_thread v3 _ _ _ rfl rfl HN.out (HT3.out _ (by first | assumption | rfl)) (by simp; omega) hz3 ?_; intro v4 w4 hI4 hg4 _; have H4 := Lib.hid hI4; have HB4 := Pairs.below HN.out HB hz3 hg4; clear hI4 hg4) | (at_builtin; refine wpList_append_pairs rfl _ _ 25 rfl W0.heap.size 37 Try.underlying25 info_thread v3 _ _ _ rfl rfl HN.out (HS3.out _) (by simp; omega) hz3 ?_; intro v4 w4 hI4 hg4 _; have H4 := Lib.hid hI4; have HB4 := Pairs.below HN.out HB hz3 hg4; clear hI4 hg4) | (at_builtin; refine wpList_append_pairs rfl _ _ 25 rfl W0.heap.size 37 Try.underlying25 info_thread v3 _ _ _ rfl rfl HN.out (HU3.out _) (by simp; omega) hz3 ?_; intro v4 w4 hI4 hg4 _; have H4 := Lib.hid hI4; have HB4 := Pairs.below HN.out HB hz3 hg4; clear hI4 hg4))
          all_goals
            go_ret
            exact ⟨_, rfl, ⟨by first | exact H4.out.mono hWz | (have hh := H4.out.mono hWz; rw [List.nil_append, List.append_assoc, List.singleton_append] at hh; exact hh), fun b hb => (H4.out.own b hb).2⟩, hW.trans (HB4.mono hWz)⟩
      · have hLs := HL.out k (by omega)
        rw [hxy] at hLs
        have HLS := Lib.hid hLs
        clear hLs hxy
        go_wp2
        go_region_held3 (fun w' => w'.cell? ⟨g, k * 2, none⟩ = some (.int .i64 x) ∧ w'.cell? ⟨g, k * 2 + 1, none⟩ = some (.int .i64 y) ∧ w'.cell? ⟨w.heap.size, 0, none⟩ = some (.int .i64 c) ∧ w'.cell? ⟨w.heap.size, 1, none⟩ = some (.int .i64 d)) (go_keep)
          (first | (go_at_call 77; refine (sgLess_any _ _ _ _ _).mono ?_; rintro e w1 ⟨rfl, hb⟩; rw [HLS.out]; have d1 := cellB hb cx; have d2 := cellB hb cy; have d3 := cellB hb p1; have d4 := cellB hb q1; (have hB2 : Below (w.heap.size + 1) (w.alloc (.cells #[.int .i64 c, .int .i64 d] 37)) w1 := by (refine Below.trans ?_ (hb.mono (by first | exact hz | (simp; omega))); go_grown))))
        go_wp2
        go_roundw
        case rel => exact ⟨k + 1, by omega, by go_num, hB2⟩
        case measure => simp [intOf]; omega
    · have hkm2 : k = m := by omega
      have hnl : decide (k < xs.length) = false := by simp; omega
      have hkc : (k : Int) ≤ (cap : Int) := by omega
      have hkl2 : (k : Int) ≤ (xs.length : Int) := by omega
      have hlc2 : (xs.length : Int) ≤ (cap : Int) := by omega
      subst hkm2
      go_wp2
      refine wp_region_held_drew (S := fun w' => Below wr.heap.size wr w') (by kernel_rfl) (by (try dsimp only); go_grown) (fun hHeld => ?_)
      refine wpAnyH_take (i := 0) (v := ?v45) rfl (by kernel_rfl) (by kernel_rfl) (by kernel_rfl) (fun _ _ _ h => h) (Or.inl ⟨by rfl, ?hy45⟩) (by assumption) ?rest45
      case hy45 => (intro w hSw; (try dsimp only at hSw); go_simp; (try with_reducible rfl))
      simp only [Act.put, List.getElem_toArray, List.getElem_cons_zero, List.setIfInBounds_toArray, List.set_cons_zero, List.set_cons_succ]
      refine wpAnyH_take (i := 1) (v := ?v46) rfl (by kernel_rfl) (by kernel_rfl) (by kernel_rfl) (fun _ _ _ h => h) (Or.inl ⟨by rfl, ?hy46⟩) (by assumption) ?rest46
      case hy46 => (intro w hSw; (try dsimp only at hSw); go_simp; (try with_reducible rfl))
      simp only [Act.put, List.getElem_toArray, List.getElem_cons_zero, List.getElem_cons_succ, List.setIfInBounds_toArray, List.set_cons_zero, List.set_cons_succ]
      refine wpAnyH_take (i := 2) (v := ?v47) rfl (by kernel_rfl) (by kernel_rfl) (by kernel_rfl) (fun _ _ _ h => h) (Or.inl ⟨by rfl, ?hy47⟩) (by assumption) ?rest47
      case hy47 => (intro w hSw; (try dsimp only at hSw); go_simp; (try with_reducible rfl))
      simp only [Act.put, List.getElem_toArray, List.getElem_cons_zero, List.getElem_cons_succ, List.setIfInBounds_toArray, List.set_cons_zero, List.set_cons_succ]
      refine wpAnyH_take (i := 3) (v := ?v48) rfl (by kernel_rfl) (by kernel_rfl) (by kernel_rfl) (fun _ _ _ h => h) (Or.inl ⟨by rfl, ?hy48⟩) (by assumption) ?rest48
      case hy48 => (intro w hSw; (try dsimp only at hSw); go_simp; (try with_reducible rfl))
      simp only [Act.put, List.getElem_toArray, List.getElem_cons_zero, List.getElem_cons_succ, List.setIfInBounds_toArray, List.set_cons_zero, List.set_cons_succ]
      refine wpAnyH_take (i := 4) (v := ?v49) rfl (by kernel_rfl) (by kernel_rfl) (by kernel_rfl) (fun _ _ _ h => h) (Or.inl ⟨by rfl, ?hy49⟩) (by assumption) ?rest49
      case hy49 => (intro w hSw; (try dsimp only at hSw); go_simp; (try with_reducible rfl))
      simp only [Act.put, List.getElem_toArray, List.getElem_cons_zero, List.getElem_cons_succ, List.setIfInBounds_toArray, List.set_cons_zero, List.set_cons_succ]
      refine wpAnyH_take (i := 5) (v := undef) rfl (by kernel_rfl) (by kernel_rfl) (by kernel_rfl) (fun _ _ _ h => h) (Or.inr ⟨by rfl, rfl⟩) (by assumption) ?_
      simp only [Act.put, List.getElem_toArray, List.getElem_cons_zero, List.getElem_cons_succ, List.setIfInBounds_toArray, List.set_cons_zero, List.set_cons_succ]
      refine wpAnyH_take (i := 6) (v := undef) rfl (by kernel_rfl) (by kernel_rfl) (by kernel_rfl) (fun _ _ _ h => h) (Or.inr ⟨by rfl, rfl⟩) (by assumption) ?_
      simp only [Act.put, List.getElem_toArray, List.getElem_cons_zero, List.getElem_cons_succ, List.setIfInBounds_toArray, List.set_cons_zero, List.set_cons_succ]
      refine wpAnyH_take (i := 7) (v := undef) rfl (by kernel_rfl) (by kernel_rfl) (by kernel_rfl) (fun _ _ _ h => h) (Or.inr ⟨by rfl, rfl⟩) (by assumption) ?_
      simp only [Act.put, List.getElem_toArray, List.getElem_cons_zero, List.getElem_cons_succ, List.setIfInBounds_toArray, List.set_cons_zero, List.set_cons_succ]
      refine wpAnyH_take (i := 8) (v := undef) rfl (by kernel_rfl) (by kernel_rfl) (by kernel_rfl) (fun _ _ _ h => h) (Or.inr ⟨by rfl, rfl⟩) (by assumption) ?_
      simp only [Act.put, List.getElem_toArray, List.getElem_cons_zero, List.getElem_cons_succ, List.setIfInBounds_toArray, List.set_cons_zero, List.set_cons_succ]
      refine wpAnyH_take (i := 9) (v := undef) rfl (by kernel_rfl) (by kernel_rfl) (by kernel_rfl) (fun _ _ _ h => h) (Or.inr ⟨by rfl, rfl⟩) (by assumption) ?_
      simp only [Act.put, List.getElem_toArray, List.getElem_cons_zero, List.getElem_cons_succ, List.setIfInBounds_toArray, List.set_cons_zero, List.set_cons_succ]
      refine wpAnyH_take (i := 10) (v := undef) rfl (by kernel_rfl) (by kernel_rfl) (by kernel_rfl) (fun _ _ _ h => h) (Or.inr ⟨by rfl, rfl⟩) (by assumption) ?_
      simp only [Act.put, List.getElem_toArray, List.getElem_cons_zero, List.getElem_cons_succ, List.setIfInBounds_toArray, List.set_cons_zero, List.set_cons_succ]
      refine wpAnyH_take (i := 11) (v := ?v50) rfl (by kernel_rfl) (by kernel_rfl) (by kernel_rfl) (fun _ _ _ h => h) (Or.inl ⟨by rfl, ?hy50⟩) (by assumption) ?rest50
      case hy50 => (intro w hSw; (try dsimp only at hSw); go_simp; (try with_reducible rfl))
      simp only [Act.put, List.getElem_toArray, List.getElem_cons_zero, List.getElem_cons_succ, List.setIfInBounds_toArray, List.set_cons_zero, List.set_cons_succ]
      refine wpAnyH_done (by kernel_rfl) ?_ _
      go_wp2
      obtain ⟨W0, hW0⟩ : ∃ W0, W0 = wr.drew := ⟨_, rfl⟩
      rw [← hW0]
      have b0 : W0.cell? ⟨w.heap.size, 0, none⟩ = some (.int .i64 c) := by rw [hW0]; exact p1
      have b1 : W0.cell? ⟨w.heap.size, 1, none⟩ = some (.int .i64 d) := by rw [hW0]; exact q1
      have hW : Below w.heap.size w W0 := by rw [hW0]; exact ⟨hBw.os, hBw.tape, hBw.output, hBw.size, hBw.block⟩
      have hWz := hW.size
      have hbz : w.heap.size < W0.heap.size := by rw [hW0]; simp; omega
      have HS1 := Lib.hid (src_take (xs := xs) (k := k) (HS.out.later hW) (by omega))
      have HS2 := Lib.hid (fun c' => src_drop (xs := xs) (k := k) (c' := c') (HS.out.later hW) (by omega))
      have HU2 := Lib.hid (fun c' => src_drop_if (xs := xs) (k := k) (c' := c') (HS.out.later hW) (by omega) hlc)
      have HT2 := Lib.hid (fun (c' : Nat) (e : cap = k) => show SrcP W0 (.slice (some ⟨g, 0, none⟩) (xs.length - k) c') (xs.drop k) by have := src_drop_if (xs := xs) (k := k) (c' := c') (HS.out.later hW) (by omega) hlc; rwa [if_pos e] at this)
      clear hW0
      refine wp_region_held_drew (S := fun w' => Below W0.heap.size W0 w' ∧ w'.cell? ⟨w.heap.size, 0, none⟩ = some (.int .i64 c) ∧ w'.cell? ⟨w.heap.size, 1, none⟩ = some (.int .i64 d)) (by kernel_rfl) (by (try dsimp only); exact keepS b0 b1 (by go_grown)) (fun hHeld => ?_)
      refine wpAnyH_take (i := 1) (v := ?v51) rfl (by kernel_rfl) (by kernel_rfl) (by kernel_rfl) (fun _ _ _ h => h) (Or.inl ⟨by rfl, ?hy51⟩) (by assumption) ?rest51
      case hy51 => (intro w hSw; (try dsimp only at hSw); go_simp; (try with_reducible rfl))
      simp only [Act.put, List.getElem_toArray, List.getElem_cons_zero, List.getElem_cons_succ, List.setIfInBounds_toArray, List.set_cons_zero, List.set_cons_succ]
      refine wpAnyH_take (i := 2) (v := ?v52) rfl (by kernel_rfl) (by kernel_rfl) (by kernel_rfl) (fun _ _ _ h => h) (Or.inl ⟨by rfl, ?hy52⟩) (by assumption) ?rest52
      case hy52 => (intro w hSw; (try dsimp only at hSw); go_simp; (try with_reducible rfl))
      simp only [Act.put, List.getElem_toArray, List.getElem_cons_zero, List.getElem_cons_succ, List.setIfInBounds_toArray, List.set_cons_zero, List.set_cons_succ]
      refine wpAnyH_take (i := 3) (v := ?v53) rfl (by kernel_rfl) (by kernel_rfl) (by kernel_rfl) (fun _ _ _ h => h) (Or.inl ⟨by rfl, ?hy53⟩) (by assumption) ?rest53
      case hy53 => (intro w hSw; (try dsimp only at hSw); go_simp; (try with_reducible rfl))
      simp only [Act.put, List.getElem_toArray, List.getElem_cons_zero, List.getElem_cons_succ, List.setIfInBounds_toArray, List.set_cons_zero, List.set_cons_succ]
      refine wpAnyH_take (i := 5) (v := ?v54) rfl (by kernel_rfl) (by kernel_rfl) (by kernel_rfl) (fun _ _ _ h => h) (Or.inl ⟨by rfl, ?hy54⟩) (by assumption) ?rest54
      case hy54 => (intro w hSw; (try dsimp only at hSw); go_simp; (try with_reducible rfl))
      simp only [Act.put, List.getElem_toArray, List.getElem_cons_zero, List.getElem_cons_succ, List.setIfInBounds_toArray, List.set_cons_zero, List.set_cons_succ]
      refine wpAnyH_ready (rs := [0, 6]) (by kernel_rfl) (by simp) ?_
      refine AllReadyH.cons rfl (fun K hK => ?_) (AllReadyH.cons rfl (fun K hK => ?_) AllReadyH.nil)
      · skip
        simp only [List.getElem_toArray, List.getElem_cons_zero]
        go_simp
        refine hK.out _ _ (by (try dsimp only); exact keepS b0 b1 (by go_grown)) (fun hHeld => ?_)
        clear hK K
        have hI0 := Lib.hid (Pairs.boxed W0.drew W0.heap.size 37 [] (Nat.le_refl _) (by simp))
        refine wpAnyH_ready (rs := [4, 6]) (by kernel_rfl) (by simp) ?_
        refine AllReadyH.cons rfl (fun K hK => ?_) (AllReadyH.cons rfl (fun K hK => ?_) AllReadyH.nil)
        · skip
          simp only [List.getElem_toArray, List.getElem_cons_zero, List.getElem_cons_succ]
          rw [if_pos (by rfl)]; refine wp_append_pairs (.tmp 21) (.tmp 24) 25 rfl W0.heap.size 37 Try.underlying25 info_thread (.slice (some ⟨W0.heap.size, 0, none⟩) 0 0) (.slice (some ⟨g, 0, none⟩) k cap) [] (xs.take k) rfl rfl hI0.out (HS1.out.later hHeld.1) (by simp; omega) hHeld.1.size ?_; intro v2 w2 hI2 hg2 ho2
          refine hK.out _ _ (by (try dsimp only); exact keepS b0 b1 (Pairs.below hI0.out hHeld.1 hHeld.1.size hg2)) (fun hHeld => ?_)
          clear hK K
          simp only [Act.put, List.setIfInBounds_toArray, List.set_cons_zero, List.set_cons_succ]
          have hb2' := hHeld.1
          refine wpAnyH_ready (rs := [6]) (by kernel_rfl) (by simp) ?_
          refine AllReadyH.cons rfl (fun K hK => ?_) AllReadyH.nil
          simp only [List.getElem_toArray, List.getElem_cons_zero, List.getElem_cons_succ]
          go_simp
          refine hK.out _ _ (by (try dsimp only); exact keepS b0 b1 (hb2'.alloc hb2'.size _)) (fun hHeld => ?_)
          clear hK K
          have hC := Pairs.boxed w2 W0.heap.size 37 [(c, d)] (by have := hb2'.size; omega) (by simp)
          refine wpAnyH_ready (rs := [7]) (by kernel_rfl) (by simp) ?_
          refine AllReadyH.cons rfl (fun K hK => ?_) AllReadyH.nil
          simp only [List.getElem_toArray, List.getElem_cons_zero, List.getElem_cons_succ]
          rw [if_pos (by rfl)]; refine wp_append_pairs (.tmp 25) (.tmp 27) 25 rfl W0.heap.size 37 Try.underlying25 info_thread v2 (.slice (some ⟨w2.heap.size, 0, none⟩) 1 1) ([] ++ xs.take k) [(c, d)] rfl rfl (hI2.later ((Below.refl _ _).alloc (Nat.le_refl _) _)) (Pairs.src hC) (by simp; omega) hHeld.1.size ?_; intro v3 w3 hI3 hg3 ho3
          refine hK.out _ _ (by (try dsimp only); exact keepS b0 b1 (Pairs.below (hI2.later ((Below.refl _ _).alloc (Nat.le_refl _) _)) hHeld.1 hHeld.1.size hg3)) (fun hHeld => ?_)
          clear hK K
          simp only [Act.put, List.setIfInBounds_toArray, List.set_cons_zero, List.set_cons_succ]
          refine wpAnyH_take (i := 8) (v := ?v55) rfl (by kernel_rfl) (by kernel_rfl) (by kernel_rfl) (fun _ _ _ h => h) (Or.inl ⟨by rfl, ?hy55⟩) (by assumption) ?rest55
          case hy55 => (intro w hSw; (try dsimp only at hSw); go_simp; (try with_reducible rfl))
          simp only [Act.put, List.getElem_toArray, List.getElem_cons_zero, List.getElem_cons_succ, List.setIfInBounds_toArray, List.set_cons_zero, List.set_cons_succ]
          refine wpAnyH_done (by kernel_rfl) ?_ _
          have HS3 := Lib.hid (fun c' => (HS2.out c').later hHeld.1)
          have HT3 := Lib.hid (fun c' e => (HT2.out c' e).later hHeld.1)
          have HU3 := Lib.hid (fun c' => (HU2.out c').later hHeld.1)
          have HN := Lib.hid hI3
          have HB := hHeld.1
          have hz3 := HB.size
          clear hHeld
          go_wp2_with (first | (at_builtin; refine wpList_append_pairs rfl _ _ 25 rfl W0.heap.size 37 Try.underlying25 info_thread v3 _ _ _ rfl rfl HN.out (HS3.out _) (by simp; omega) hz3 ?_; intro v4 w4 hI4 hg4 _; have H4 := Lib.hid hI4; have HB4 := Pairs.below HN.out HB hz3 hg4; clear hI4 hg4) | (at_builtin; refine wpList_append_pairs rfl _ _ 25 rfl W0.heap.size 37 Try.underlying25 info_thread v3 _ _ _ rfl rfl HN.out (HT3.out _ (by first | assumption | rfl)) (by simp; omega) hz3 ?_; intro v4 w4 hI4 hg4 _; have H4 := Lib.hid hI4; have HB4 := Pairs.below HN.out HB hz3 hg4; clear hI4 hg4) | (at_builtin; refine wpList_append_pairs rfl _ _ 25 rfl W0.heap.size 37 Try.underlying25 info_thread v3 _ _ _ rfl rfl HN.out (HS3.out _) (by simp; omega) hz3 ?_; intro v4 w4 hI4 hg4 _; have H4 := Lib.hid hI4; have HB4 := Pairs.below HN.out HB hz3 hg4; clear hI4 hg4) | (at_builtin; refine wpList_append_pairs rfl _ _ 25 rfl W0.heap.size 37 Try.underlying25 info_thread v3 _ _ _ rfl rfl HN.out (HU3.out _) (by simp; omega) hz3 ?_; intro v4 w4 hI4 hg4 _; have H4 := Lib.hid hI4; have HB4 := Pairs.below HN.out HB hz3 hg4; clear hI4 hg4))
          all_goals
            go_ret
            exact ⟨_, rfl, ⟨by first | exact H4.out.mono hWz | (have hh := H4.out.mono hWz; rw [List.nil_append, List.append_assoc, List.singleton_append] at hh; exact hh), fun b hb => (H4.out.own b hb).2⟩, hW.trans (HB4.mono hWz)⟩
        · skip
          simp only [List.getElem_toArray, List.getElem_cons_zero, List.getElem_cons_succ]
          go_simp
          refine hK.out _ _ (by (try dsimp only); exact keepS b0 b1 (by go_grown)) (fun hHeld => ?_)
          clear hK K
          have hC := Pairs.boxedAt (W0.drew.alloc (.cells #[] 37)) W0.heap.size 37 [(c, d)] (W0.heap.size + 1) (by simp) (by omega) (by simp)
          have hI0' := hI0.out.later (w' := (W0.drew.alloc (.cells #[] 37)).alloc (.cells ((flatP [(c, d)]).map (Value.int .i64)).toArray 37)) ((Below.refl _ _).alloc (Nat.le_refl _) _)
          refine wpAnyH_ready (rs := [4]) (by kernel_rfl) (by simp) ?_
          refine AllReadyH.cons rfl (fun K hK => ?_) AllReadyH.nil
          simp only [List.getElem_toArray, List.getElem_cons_zero, List.getElem_cons_succ]
          rw [if_pos (by rfl)]; refine wp_append_pairs (.tmp 21) (.tmp 24) 25 rfl W0.heap.size 37 Try.underlying25 info_thread (.slice (some ⟨W0.heap.size, 0, none⟩) 0 0) (.slice (some ⟨g, 0, none⟩) k cap) [] (xs.take k) rfl rfl hI0' (HS1.out.later hHeld.1) (by simp; omega) hHeld.1.size ?_; intro v2 w2 hI2 hg2 ho2
          refine hK.out _ _ (by (try dsimp only); exact keepS b0 b1 (Pairs.below hI0' hHeld.1 hHeld.1.size hg2)) (fun hHeld => ?_)
          clear hK K
          simp only [Act.put, List.setIfInBounds_toArray, List.set_cons_zero, List.set_cons_succ]
          have hC2 := Pairs.keptBut hC hg2 (.inr (by simp [Value.ownBlock]))
          refine wpAnyH_ready (rs := [7]) (by kernel_rfl) (by simp) ?_
          refine AllReadyH.cons rfl (fun K hK => ?_) AllReadyH.nil
          simp only [List.getElem_toArray, List.getElem_cons_zero, List.getElem_cons_succ]
          rw [if_pos (by rfl)]; refine wp_append_pairs (.tmp 25) (.tmp 27) 25 rfl W0.heap.size 37 Try.underlying25 info_thread v2 (.slice (some ⟨(W0.heap.size + 1), 0, none⟩) 1 1) ([] ++ xs.take k) [(c, d)] rfl rfl hI2 (Pairs.src hC2) (by simp; omega) hHeld.1.size ?_; intro v3 w3 hI3 hg3 ho3
          refine hK.out _ _ (by (try dsimp only); exact keepS b0 b1 (Pairs.below hI2 hHeld.1 hHeld.1.size hg3)) (fun hHeld => ?_)
          clear hK K
          simp only [Act.put, List.setIfInBounds_toArray, List.set_cons_zero, List.set_cons_succ]
          refine wpAnyH_take (i := 8) (v := ?v56) rfl (by kernel_rfl) (by kernel_rfl) (by kernel_rfl) (fun _ _ _ h => h) (Or.inl ⟨by rfl, ?hy56⟩) (by assumption) ?rest56
          case hy56 => (intro w hSw; (try dsimp only at hSw); go_simp; (try with_reducible rfl))
          simp only [Act.put, List.getElem_toArray, List.getElem_cons_zero, List.getElem_cons_succ, List.setIfInBounds_toArray, List.set_cons_zero, List.set_cons_succ]
          refine wpAnyH_done (by kernel_rfl) ?_ _
          have HS3 := Lib.hid (fun c' => (HS2.out c').later hHeld.1)
          have HT3 := Lib.hid (fun c' e => (HT2.out c' e).later hHeld.1)
          have HU3 := Lib.hid (fun c' => (HU2.out c').later hHeld.1)
          have HN := Lib.hid hI3
          have HB := hHeld.1
          have hz3 := HB.size
          clear hHeld
          go_wp2_with (first | (at_builtin; refine wpList_append_pairs rfl _ _ 25 rfl W0.heap.size 37 Try.underlying25 info_thread v3 _ _ _ rfl rfl HN.out (HS3.out _) (by simp; omega) hz3 ?_; intro v4 w4 hI4 hg4 _; have H4 := Lib.hid hI4; have HB4 := Pairs.below HN.out HB hz3 hg4; clear hI4 hg4) | (at_builtin; refine wpList_append_pairs rfl _ _ 25 rfl W0.heap.size 37 Try.underlying25 info_thread v3 _ _ _ rfl rfl HN.out (HT3.out _ (by first | assumption | rfl)) (by simp; omega) hz3 ?_; intro v4 w4 hI4 hg4 _; have H4 := Lib.hid hI4; have HB4 := Pairs.below HN.out HB hz3 hg4; clear hI4 hg4) | (at_builtin; refine wpList_append_pairs rfl _ _ 25 rfl W0.heap.size 37 Try.underlying25 info_thread v3 _ _ _ rfl rfl HN.out (HS3.out _) (by simp; omega) hz3 ?_; intro v4 w4 hI4 hg4 _; have H4 := Lib.hid hI4; have HB4 := Pairs.below HN.out HB hz3 hg4; clear hI4 hg4) | (at_builtin; refine wpList_append_pairs rfl _ _ 25 rfl W0.heap.size 37 Try.underlying25 info_thread v3 _ _ _ rfl rfl HN.out (HU3.out _) (by simp; omega) hz3 ?_; intro v4 w4 hI4 hg4 _; have H4 := Lib.hid hI4; have HB4 := Pairs.below HN.out HB hz3 hg4; clear hI4 hg4))
          all_goals
            go_ret
            exact ⟨_, rfl, ⟨by first | exact H4.out.mono hWz | (have hh := H4.out.mono hWz; rw [List.nil_append, List.append_assoc, List.singleton_append] at hh; exact hh), fun b hb => (H4.out.own b hb).2⟩, hW.trans (HB4.mono hWz)⟩
      · skip
        simp only [List.getElem_toArray, List.getElem_cons_zero, List.getElem_cons_succ]
        go_simp
        refine hK.out _ _ (by (try dsimp only); exact keepS b0 b1 (by go_grown)) (fun hHeld => ?_)
        clear hK K
        have hC := Pairs.boxed W0.drew W0.heap.size 37 [(c, d)] (by simp) (by simp)
        refine wpAnyH_ready (rs := [0]) (by kernel_rfl) (by simp) ?_
        refine AllReadyH.cons rfl (fun K hK => ?_) AllReadyH.nil
        simp only [List.getElem_toArray, List.getElem_cons_zero]
        go_simp
        refine hK.out _ _ (by (try dsimp only); exact keepS b0 b1 (by go_grown)) (fun hHeld => ?_)
        clear hK K
        have hI0' := Pairs.boxedAt (W0.drew.alloc (.cells ((flatP [(c, d)]).map (Value.int .i64)).toArray 37)) W0.heap.size 37 [] (W0.heap.size + 1) (by simp) (by omega) (by simp)
        have hC1 := hC.later (w' := (W0.drew.alloc (.cells ((flatP [(c, d)]).map (Value.int .i64)).toArray 37)).alloc (.cells #[] 37)) ((Below.refl _ _).alloc (Nat.le_refl _) _)
        refine wpAnyH_ready (rs := [4]) (by kernel_rfl) (by simp) ?_
        refine AllReadyH.cons rfl (fun K hK => ?_) AllReadyH.nil
        simp only [List.getElem_toArray, List.getElem_cons_zero, List.getElem_cons_succ]
        rw [if_pos (by rfl)]; refine wp_append_pairs (.tmp 21) (.tmp 24) 25 rfl W0.heap.size 37 Try.underlying25 info_thread (.slice (some ⟨(W0.heap.size + 1), 0, none⟩) 0 0) (.slice (some ⟨g, 0, none⟩) k cap) [] (xs.take k) rfl rfl hI0' (HS1.out.later hHeld.1) (by simp; omega) hHeld.1.size ?_; intro v2 w2 hI2 hg2 ho2
        refine hK.out _ _ (by (try dsimp only); exact keepS b0 b1 (Pairs.below hI0' hHeld.1 hHeld.1.size hg2)) (fun hHeld => ?_)
        clear hK K
        simp only [Act.put, List.setIfInBounds_toArray, List.set_cons_zero, List.set_cons_succ]
        have hC2 := Pairs.keptBut hC1 hg2 (.inr (by simp [Value.ownBlock]))
        refine wpAnyH_ready (rs := [7]) (by kernel_rfl) (by simp) ?_
        refine AllReadyH.cons rfl (fun K hK => ?_) AllReadyH.nil
        simp only [List.getElem_toArray, List.getElem_cons_zero, List.getElem_cons_succ]
        rw [if_pos (by rfl)]; refine wp_append_pairs (.tmp 25) (.tmp 27) 25 rfl W0.heap.size 37 Try.underlying25 info_thread v2 (.slice (some ⟨W0.heap.size, 0, none⟩) 1 1) ([] ++ xs.take k) [(c, d)] rfl rfl hI2 (Pairs.src hC2) (by simp; omega) hHeld.1.size ?_; intro v3 w3 hI3 hg3 ho3
        refine hK.out _ _ (by (try dsimp only); exact keepS b0 b1 (Pairs.below hI2 hHeld.1 hHeld.1.size hg3)) (fun hHeld => ?_)
        clear hK K
        simp only [Act.put, List.setIfInBounds_toArray, List.set_cons_zero, List.set_cons_succ]
        refine wpAnyH_take (i := 8) (v := ?v57) rfl (by kernel_rfl) (by kernel_rfl) (by kernel_rfl) (fun _ _ _ h => h) (Or.inl ⟨by rfl, ?hy57⟩) (by assumption) ?rest57
        case hy57 => (intro w hSw; (try dsimp only at hSw); go_simp; (try with_reducible rfl))
        simp only [Act.put, List.getElem_toArray, List.getElem_cons_zero, List.getElem_cons_succ, List.setIfInBounds_toArray, List.set_cons_zero, List.set_cons_succ]
        refine wpAnyH_done (by kernel_rfl) ?_ _
        have HS3 := Lib.hid (fun c' => (HS2.out c').later hHeld.1)
        have HT3 := Lib.hid (fun c' e => (HT2.out c' e).later hHeld.1)
        have HU3 := Lib.hid (fun c' => (HU2.out c').later hHeld.1)
        have HN := Lib.hid hI3
        have HB := hHeld.1
        have hz3 := HB.size
        clear hHeld
        go_wp2_with (first | (at_builtin; refine wpList_append_pairs rfl _ _ 25 rfl W0.heap.size 37 Try.underlying25 info_thread v3 _ _ _ rfl rfl HN.out (HS3.out _) (by simp; omega) hz3 ?_; intro v4 w4 hI4 hg4 _; have H4 := Lib.hid hI4; have HB4 := Pairs.below HN.out HB hz3 hg4; clear hI4 hg4) | (at_builtin; refine wpList_append_pairs rfl _ _ 25 rfl W0.heap.size 37 Try.underlying25 info_thread v3 _ _ _ rfl rfl HN.out (HT3.out _ (by first | assumption | rfl)) (by simp; omega) hz3 ?_; intro v4 w4 hI4 hg4 _; have H4 := Lib.hid hI4; have HB4 := Pairs.below HN.out HB hz3 hg4; clear hI4 hg4) | (at_builtin; refine wpList_append_pairs rfl _ _ 25 rfl W0.heap.size 37 Try.underlying25 info_thread v3 _ _ _ rfl rfl HN.out (HS3.out _) (by simp; omega) hz3 ?_; intro v4 w4 hI4 hg4 _; have H4 := Lib.hid hI4; have HB4 := Pairs.below HN.out HB hz3 hg4; clear hI4 hg4) | (at_builtin; refine wpList_append_pairs rfl _ _ 25 rfl W0.heap.size 37 Try.underlying25 info_thread v3 _ _ _ rfl rfl HN.out (HU3.out _) (by simp; omega) hz3 ?_; intro v4 w4 hI4 hg4 _; have H4 := Lib.hid hI4; have HB4 := Pairs.below HN.out HB hz3 hg4; clear hI4 hg4))
        all_goals
          go_ret
          exact ⟨_, rfl, ⟨by first | exact H4.out.mono hWz | (have hh := H4.out.mono hWz; rw [List.nil_append, List.append_assoc, List.singleton_append] at hh; exact hh), fun b hb => (H4.out.own b hb).2⟩, hW.trans (HB4.mono hWz)⟩

theorem sgPut_any (u : Value) (xs : List (Int × Int)) (c d : Int) (B T : Nat) (w : World) (h : PairsIn 37 w B T u xs) (hT : T ≤ w.heap.size) (hn : xs.length ≤ 1000000) :
    Calls Try.prog 69 #[u, .agg #[.int .i64 c, .int .i64 d]] w fun e w' => ∃ v', e = .returned v' ∧ PairsIn 37 w' w.heap.size w'.heap.size v' (putAt xs c d) ∧ Below w.heap.size w w' := by
  rcases src_form h.1 with ⟨rfl, rfl⟩ | ⟨g, cap, rfl, _, hlc, hcm⟩
  · exact sgPut_nil c d w
  · exact sgPut_some g cap xs c d B T w h hT hn hlc hcm

end Go.Proofs.Ytngonpiiehmlaaa
