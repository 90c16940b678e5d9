/- The model's chords in order: a chord that is not there is put in. -/
import Derived.Test.YtnldnjgnpdicnaaC3
import Derived.Test.YtnldnjgnpdicnaaBA
namespace Go.Proofs.Ytnldnjgnpdicnaa
open Go.RowKit
set_option linter.unusedVariables false

theorem Pairs.keptBut {w w' : World} {B : Nat} {e : TypeId} {v : Value} {xs : List (Int × Int)} {row : Option Nat} (h : Pairs w B e v xs) (hg : w.grownBy w' row) (hne : v.ownBlock = none ∨ v.ownBlock ≠ row) : Pairs w' B e v xs :=
  World.ownsRow.kept h hg hne

theorem src_form {w : World} {B : Nat} {e : TypeId} {v : Value} {xs : List (Int × Int)} (h : Pairs w B e v xs) :
    (v = .slice none 0 0 ∧ xs = []) ∨ ∃ g cap, v = .slice (some ⟨g, 0, none⟩) xs.length cap ∧ g < w.heap.size ∧ xs.length ≤ cap ∧ cap ≤ maxLen := by
  rcases h.2 with ⟨hv, hn⟩ | ⟨g, cap, cur, hv, hB, hg, hn, hm, _, _⟩
  · exact .inl ⟨hv, List.eq_nil_of_length_eq_zero hn⟩
  · exact .inr ⟨g, cap, hv, (Array.getElem?_eq_some_iff.1 hg).1, hn, hm⟩

theorem Pairs.boxedAt (W : World) (B : Nat) (e : TypeId) (xs : List (Int × Int)) (n : Nat) (hn : W.heap.size = n) (hB : B ≤ n) (hl : xs.length ≤ 1000000000) :
    Pairs (W.alloc (.cells ((flatP xs).map (Value.int .i64)).toArray e)) B e (.slice (some ⟨n, 0, none⟩) xs.length xs.length) xs := by
  subst hn
  exact Pairs.boxed W B e xs hB hl

theorem keepS {W0 w' : World} {b : Nat} {x y : Value} (b0 : W0.cell? ⟨b, 0, none⟩ = some x) (b1 : W0.cell? ⟨b, 1, none⟩ = some y) (hb : Below W0.heap.size W0 w') :
    Below W0.heap.size W0 w' ∧ w'.cell? ⟨b, 0, none⟩ = some x ∧ w'.cell? ⟨b, 1, none⟩ = some y := ⟨hb, cellB hb b0, cellB hb b1⟩


set_option maxHeartbeats 1000000 in
theorem srPut_nil (c d : Int) (w : World) :
    Calls Try.prog 53 #[.slice none 0 0, .agg #[.int .i64 c, .int .i64 d]] w fun e w' => ∃ v', e = .returned v' ∧ PairsIn 52 w' w.heap.size w'.heap.size v' ([] ++ ([] : List (Int × Int)).take 0 ++ [(c, d)] ++ ([] : List (Int × Int)).drop 0) ∧ Below w.heap.size w w' := by
  obtain ⟨m, hm⟩ : ∃ m, m = 0 := ⟨_, rfl⟩
  obtain ⟨xs, hxs⟩ : ∃ xs : List (Int × Int), xs = [] := ⟨_, rfl⟩
  have HX := Lib.hid (And.intro hm hxs)
  rw [show (([] : List (Int × Int)).take 0) = xs.take m by rw [hxs, hm], show (([] : List (Int × Int)).drop 0) = xs.drop m by rw [hxs, hm]]
  have hl : xs.length = 0 := by rw [hxs]; rfl
  clear hm hxs
  go_enter Try.func53, Try.ntmps53
  go_wp2
  go_loopw [5] (fun i wr => i = .int .i64 0 ∧ wr = w.alloc (.cells #[.int .i64 c, .int .i64 d] 52)) (fun _ _ => 0)
  case atStart => exact ⟨rfl, rfl⟩
  case round =>
    obtain ⟨rfl, rfl⟩ := hrel
    go_wp2

    refine wp_region_held_drew (S := fun w' => Below w.heap.size w w') (by kernel_rfl) (by (try dsimp only); go_grown) (fun hHeld => ?_)
    refine wpAnyH_take (i := 0) (v := ?v35) rfl (by kernel_rfl) (by kernel_rfl) (by kernel_rfl) (fun _ _ _ h => h) (Or.inl ⟨by rfl, ?hy35⟩) (by assumption) ?rest35
    case hy35 => (intro w hSw; (try dsimp only at hSw); go_simp; (try with_reducible rfl))
    simp only [Act.put, List.getElem_toArray, List.getElem_cons_zero, List.setIfInBounds_toArray, List.set_cons_zero, List.set_cons_succ]
    refine wpAnyH_take (i := 1) (v := ?v36) rfl (by kernel_rfl) (by kernel_rfl) (by kernel_rfl) (fun _ _ _ h => h) (Or.inl ⟨by rfl, ?hy36⟩) (by assumption) ?rest36
    case hy36 => (intro w hSw; (try dsimp only at hSw); go_simp; (try with_reducible rfl))
    simp only [Act.put, List.getElem_toArray, List.getElem_cons_zero, List.getElem_cons_succ, List.setIfInBounds_toArray, List.set_cons_zero, List.set_cons_succ]
    refine wpAnyH_take (i := 2) (v := ?v37) rfl (by kernel_rfl) (by kernel_rfl) (by kernel_rfl) (fun _ _ _ h => h) (Or.inl ⟨by rfl, ?hy37⟩) (by assumption) ?rest37
    case hy37 => (intro w hSw; (try dsimp only at hSw); go_simp; (try with_reducible rfl))
    simp only [Act.put, List.getElem_toArray, List.getElem_cons_zero, List.getElem_cons_succ, List.setIfInBounds_toArray, List.set_cons_zero, List.set_cons_succ]
    refine wpAnyH_take (i := 3) (v := ?v38) rfl (by kernel_rfl) (by kernel_rfl) (by kernel_rfl) (fun _ _ _ h => h) (Or.inl ⟨by rfl, ?hy38⟩) (by assumption) ?rest38
    case hy38 => (intro w hSw; (try dsimp only at hSw); go_simp; (try with_reducible rfl))
    simp only [Act.put, List.getElem_toArray, List.getElem_cons_zero, List.getElem_cons_succ, List.setIfInBounds_toArray, List.set_cons_zero, List.set_cons_succ]
    refine wpAnyH_take (i := 4) (v := ?v39) rfl (by kernel_rfl) (by kernel_rfl) (by kernel_rfl) (fun _ _ _ h => h) (Or.inl ⟨by rfl, ?hy39⟩) (by assumption) ?rest39
    case hy39 => (intro w hSw; (try dsimp only at hSw); go_simp; (try with_reducible rfl))
    simp only [Act.put, List.getElem_toArray, List.getElem_cons_zero, List.getElem_cons_succ, List.setIfInBounds_toArray, List.set_cons_zero, List.set_cons_succ]
    refine wpAnyH_take (i := 5) (v := undef) rfl (by kernel_rfl) (by kernel_rfl) (by kernel_rfl) (fun _ _ _ h => h) (Or.inr ⟨by rfl, rfl⟩) (by assumption) ?_
    simp only [Act.put, List.getElem_toArray, List.getElem_cons_zero, List.getElem_cons_succ, List.setIfInBounds_toArray, List.set_cons_zero, List.set_cons_succ]
    refine wpAnyH_take (i := 6) (v := undef) rfl (by kernel_rfl) (by kernel_rfl) (by kernel_rfl) (fun _ _ _ h => h) (Or.inr ⟨by rfl, rfl⟩) (by assumption) ?_
    simp only [Act.put, List.getElem_toArray, List.getElem_cons_zero, List.getElem_cons_succ, List.setIfInBounds_toArray, List.set_cons_zero, List.set_cons_succ]
    refine wpAnyH_take (i := 7) (v := undef) rfl (by kernel_rfl) (by kernel_rfl) (by kernel_rfl) (fun _ _ _ h => h) (Or.inr ⟨by rfl, rfl⟩) (by assumption) ?_
    simp only [Act.put, List.getElem_toArray, List.getElem_cons_zero, List.getElem_cons_succ, List.setIfInBounds_toArray, List.set_cons_zero, List.set_cons_succ]
    refine wpAnyH_take (i := 8) (v := undef) rfl (by kernel_rfl) (by kernel_rfl) (by kernel_rfl) (fun _ _ _ h => h) (Or.inr ⟨by rfl, rfl⟩) (by assumption) ?_
    simp only [Act.put, List.getElem_toArray, List.getElem_cons_zero, List.getElem_cons_succ, List.setIfInBounds_toArray, List.set_cons_zero, List.set_cons_succ]
    refine wpAnyH_take (i := 9) (v := undef) rfl (by kernel_rfl) (by kernel_rfl) (by kernel_rfl) (fun _ _ _ h => h) (Or.inr ⟨by rfl, rfl⟩) (by assumption) ?_
    simp only [Act.put, List.getElem_toArray, List.getElem_cons_zero, List.getElem_cons_succ, List.setIfInBounds_toArray, List.set_cons_zero, List.set_cons_succ]
    refine wpAnyH_take (i := 10) (v := undef) rfl (by kernel_rfl) (by kernel_rfl) (by kernel_rfl) (fun _ _ _ h => h) (Or.inr ⟨by rfl, rfl⟩) (by assumption) ?_
    simp only [Act.put, List.getElem_toArray, List.getElem_cons_zero, List.getElem_cons_succ, List.setIfInBounds_toArray, List.set_cons_zero, List.set_cons_succ]
    refine wpAnyH_take (i := 11) (v := ?v40) rfl (by kernel_rfl) (by kernel_rfl) (by kernel_rfl) (fun _ _ _ h => h) (Or.inl ⟨by rfl, ?hy40⟩) (by assumption) ?rest40
    case hy40 => (intro w hSw; (try dsimp only at hSw); go_simp; (try with_reducible rfl))
    simp only [Act.put, List.getElem_toArray, List.getElem_cons_zero, List.getElem_cons_succ, List.setIfInBounds_toArray, List.set_cons_zero, List.set_cons_succ]
    refine wpAnyH_done (by kernel_rfl) ?_ _
    go_wp2
    refine wp_region_held_drew (S := fun w' => Below w.heap.size w w') (by kernel_rfl) (by (try dsimp only); go_grown) (fun hHeld => ?_)
    refine wpAnyH_take (i := 0) (v := ?v41) rfl (by kernel_rfl) (by kernel_rfl) (by kernel_rfl) (fun _ _ _ h => h) (Or.inl ⟨by rfl, ?hy41⟩) (by assumption) ?rest41
    case hy41 => (intro w hSw; (try dsimp only at hSw); go_simp; (try with_reducible rfl))
    simp only [Act.put, List.getElem_toArray, List.getElem_cons_zero, List.setIfInBounds_toArray, List.set_cons_zero, List.set_cons_succ]
    refine wpAnyH_take (i := 1) (v := ?v42) rfl (by kernel_rfl) (by kernel_rfl) (by kernel_rfl) (fun _ _ _ h => h) (Or.inl ⟨by rfl, ?hy42⟩) (by assumption) ?rest42
    case hy42 => (intro w hSw; (try dsimp only at hSw); go_simp; (try with_reducible rfl))
    simp only [Act.put, List.getElem_toArray, List.getElem_cons_zero, List.getElem_cons_succ, List.setIfInBounds_toArray, List.set_cons_zero, List.set_cons_succ]
    refine wpAnyH_take (i := 2) (v := ?v43) rfl (by kernel_rfl) (by kernel_rfl) (by kernel_rfl) (fun _ _ _ h => h) (Or.inl ⟨by rfl, ?hy43⟩) (by assumption) ?rest43
    case hy43 => (intro w hSw; (try dsimp only at hSw); go_simp; (try with_reducible rfl))
    simp only [Act.put, List.getElem_toArray, List.getElem_cons_zero, List.getElem_cons_succ, List.setIfInBounds_toArray, List.set_cons_zero, List.set_cons_succ]
    refine wpAnyH_take (i := 3) (v := ?v44) rfl (by kernel_rfl) (by kernel_rfl) (by kernel_rfl) (fun _ _ _ h => h) (Or.inl ⟨by rfl, ?hy44⟩) (by assumption) ?rest44
    case hy44 => (intro w hSw; (try dsimp only at hSw); go_simp; (try with_reducible rfl))
    simp only [Act.put, List.getElem_toArray, List.getElem_cons_zero, List.getElem_cons_succ, List.setIfInBounds_toArray, List.set_cons_zero, List.set_cons_succ]
    refine wpAnyH_take (i := 4) (v := ?v45) rfl (by kernel_rfl) (by kernel_rfl) (by kernel_rfl) (fun _ _ _ h => h) (Or.inl ⟨by rfl, ?hy45⟩) (by assumption) ?rest45
    case hy45 => (intro w hSw; (try dsimp only at hSw); go_simp; (try with_reducible rfl))
    simp only [Act.put, List.getElem_toArray, List.getElem_cons_zero, List.getElem_cons_succ, List.setIfInBounds_toArray, List.set_cons_zero, List.set_cons_succ]
    refine wpAnyH_take (i := 5) (v := undef) rfl (by kernel_rfl) (by kernel_rfl) (by kernel_rfl) (fun _ _ _ h => h) (Or.inr ⟨by rfl, rfl⟩) (by assumption) ?_
    simp only [Act.put, List.getElem_toArray, List.getElem_cons_zero, List.getElem_cons_succ, List.setIfInBounds_toArray, List.set_cons_zero, List.set_cons_succ]
    refine wpAnyH_take (i := 6) (v := undef) rfl (by kernel_rfl) (by kernel_rfl) (by kernel_rfl) (fun _ _ _ h => h) (Or.inr ⟨by rfl, rfl⟩) (by assumption) ?_
    simp only [Act.put, List.getElem_toArray, List.getElem_cons_zero, List.getElem_cons_succ, List.setIfInBounds_toArray, List.set_cons_zero, List.set_cons_succ]
    refine wpAnyH_take (i := 7) (v := undef) rfl (by kernel_rfl) (by kernel_rfl) (by kernel_rfl) (fun _ _ _ h => h) (Or.inr ⟨by rfl, rfl⟩) (by assumption) ?_
    simp only [Act.put, List.getElem_toArray, List.getElem_cons_zero, List.getElem_cons_succ, List.setIfInBounds_toArray, List.set_cons_zero, List.set_cons_succ]
    refine wpAnyH_take (i := 8) (v := undef) rfl (by kernel_rfl) (by kernel_rfl) (by kernel_rfl) (fun _ _ _ h => h) (Or.inr ⟨by rfl, rfl⟩) (by assumption) ?_
    simp only [Act.put, List.getElem_toArray, List.getElem_cons_zero, List.getElem_cons_succ, List.setIfInBounds_toArray, List.set_cons_zero, List.set_cons_succ]
    refine wpAnyH_take (i := 9) (v := undef) rfl (by kernel_rfl) (by kernel_rfl) (by kernel_rfl) (fun _ _ _ h => h) (Or.inr ⟨by rfl, rfl⟩) (by assumption) ?_
    simp only [Act.put, List.getElem_toArray, List.getElem_cons_zero, List.getElem_cons_succ, List.setIfInBounds_toArray, List.set_cons_zero, List.set_cons_succ]
    refine wpAnyH_take (i := 10) (v := undef) rfl (by kernel_rfl) (by kernel_rfl) (by kernel_rfl) (fun _ _ _ h => h) (Or.inr ⟨by rfl, rfl⟩) (by assumption) ?_
    simp only [Act.put, List.getElem_toArray, List.getElem_cons_zero, List.getElem_cons_succ, List.setIfInBounds_toArray, List.set_cons_zero, List.set_cons_succ]
    refine wpAnyH_take (i := 11) (v := ?v46) rfl (by kernel_rfl) (by kernel_rfl) (by kernel_rfl) (fun _ _ _ h => h) (Or.inl ⟨by rfl, ?hy46⟩) (by assumption) ?rest46
    case hy46 => (intro w hSw; (try dsimp only at hSw); go_simp; (try with_reducible rfl))
    simp only [Act.put, List.getElem_toArray, List.getElem_cons_zero, List.getElem_cons_succ, List.setIfInBounds_toArray, List.set_cons_zero, List.set_cons_succ]
    refine wpAnyH_done (by kernel_rfl) ?_ _
    go_wp2
    obtain ⟨W0, hW0⟩ : ∃ W0, W0 = (w.alloc (.cells #[.int .i64 c, .int .i64 d] 52)).drew.drew := ⟨_, rfl⟩
    rw [← hW0]
    have b0 : W0.cell? ⟨w.heap.size, 0, none⟩ = some (.int .i64 c) := by rw [hW0]; go_simp
    have b1 : W0.cell? ⟨w.heap.size, 1, none⟩ = some (.int .i64 d) := by rw [hW0]; go_simp
    have hW : Below w.heap.size w W0 := by rw [hW0]; go_grown
    have hWz := hW.size
    have hbz : w.heap.size < W0.heap.size := by rw [hW0]; simp
    have HS1 := Lib.hid (show SrcP W0 (.slice none 0 0) (xs.take m) from .inl ⟨rfl, by rw [HX.out.1, HX.out.2]; rfl⟩)
    have HS2 := Lib.hid (show SrcP W0 (.slice none 0 0) (xs.drop m) from .inl ⟨rfl, by rw [HX.out.1, HX.out.2]; rfl⟩)
    clear hW0
    refine wp_region_held_drew (S := fun w' => Below W0.heap.size W0 w' ∧ w'.cell? ⟨w.heap.size, 0, none⟩ = some (.int .i64 c) ∧ w'.cell? ⟨w.heap.size, 1, none⟩ = some (.int .i64 d)) (by kernel_rfl) (by (try dsimp only); exact keepS b0 b1 (by go_grown)) (fun hHeld => ?_)
    refine wpAnyH_take (i := 1) (v := ?v47) rfl (by kernel_rfl) (by kernel_rfl) (by kernel_rfl) (fun _ _ _ h => h) (Or.inl ⟨by rfl, ?hy47⟩) (by assumption) ?rest47
    case hy47 => (intro w hSw; (try dsimp only at hSw); go_simp; (try with_reducible rfl))
    simp only [Act.put, List.getElem_toArray, List.getElem_cons_zero, List.getElem_cons_succ, List.setIfInBounds_toArray, List.set_cons_zero, List.set_cons_succ]
    refine wpAnyH_take (i := 2) (v := ?v48) rfl (by kernel_rfl) (by kernel_rfl) (by kernel_rfl) (fun _ _ _ h => h) (Or.inl ⟨by rfl, ?hy48⟩) (by assumption) ?rest48
    case hy48 => (intro w hSw; (try dsimp only at hSw); go_simp; (try with_reducible rfl))
    simp only [Act.put, List.getElem_toArray, List.getElem_cons_zero, List.getElem_cons_succ, List.setIfInBounds_toArray, List.set_cons_zero, List.set_cons_succ]
    refine wpAnyH_take (i := 3) (v := ?v49) rfl (by kernel_rfl) (by kernel_rfl) (by kernel_rfl) (fun _ _ _ h => h) (Or.inl ⟨by rfl, ?hy49⟩) (by assumption) ?rest49
    case hy49 => (intro w hSw; (try dsimp only at hSw); go_simp; (try with_reducible rfl))
    simp only [Act.put, List.getElem_toArray, List.getElem_cons_zero, List.getElem_cons_succ, List.setIfInBounds_toArray, List.set_cons_zero, List.set_cons_succ]
    refine wpAnyH_take (i := 5) (v := ?v50) rfl (by kernel_rfl) (by kernel_rfl) (by kernel_rfl) (fun _ _ _ h => h) (Or.inl ⟨by rfl, ?hy50⟩) (by assumption) ?rest50
    case hy50 => (intro w hSw; (try dsimp only at hSw); go_simp; (try with_reducible rfl))
    simp only [Act.put, List.getElem_toArray, List.getElem_cons_zero, List.getElem_cons_succ, List.setIfInBounds_toArray, List.set_cons_zero, List.set_cons_succ]
    refine wpAnyH_ready (rs := [0, 6]) (by kernel_rfl) (by simp) ?_
    refine AllReadyH.cons rfl (fun K hK => ?_) (AllReadyH.cons rfl (fun K hK => ?_) AllReadyH.nil)
    · skip
      simp only [List.getElem_toArray, List.getElem_cons_zero]
      go_simp
      refine hK.out _ _ (by (try dsimp only); exact keepS b0 b1 (by go_grown)) (fun hHeld => ?_)
      clear hK K
      have hI0 := Lib.hid (Pairs.boxed W0.drew W0.heap.size 52 [] (Nat.le_refl _) (by simp))
      refine wpAnyH_ready (rs := [4, 6]) (by kernel_rfl) (by simp) ?_
      refine AllReadyH.cons rfl (fun K hK => ?_) (AllReadyH.cons rfl (fun K hK => ?_) AllReadyH.nil)
      · skip
        simp only [List.getElem_toArray, List.getElem_cons_zero, List.getElem_cons_succ]
        rw [if_pos (by rfl)]; refine wp_append_pairs (.tmp 34) (.tmp 37) 24 rfl W0.heap.size 52 Try.underlying24 info_chord (.slice (some ⟨W0.heap.size, 0, none⟩) 0 0) (.slice none 0 0) [] (xs.take m) rfl rfl hI0.out (HS1.out.later hHeld.1) (by simp; omega) hHeld.1.size ?_; intro v2 w2 hI2 hg2 ho2
        refine hK.out _ _ (by (try dsimp only); exact keepS b0 b1 (Pairs.below hI0.out hHeld.1 hHeld.1.size hg2)) (fun hHeld => ?_)
        clear hK K
        simp only [Act.put, List.setIfInBounds_toArray, List.set_cons_zero, List.set_cons_succ]
        have hb2' := hHeld.1
        refine wpAnyH_ready (rs := [6]) (by kernel_rfl) (by simp) ?_
        refine AllReadyH.cons rfl (fun K hK => ?_) AllReadyH.nil
        simp only [List.getElem_toArray, List.getElem_cons_zero, List.getElem_cons_succ]
        go_simp
        refine hK.out _ _ (by (try dsimp only); exact keepS b0 b1 (hb2'.alloc hb2'.size _)) (fun hHeld => ?_)
        clear hK K
        have hC := Pairs.boxed w2 W0.heap.size 52 [(c, d)] (by have := hb2'.size; omega) (by simp)
        refine wpAnyH_ready (rs := [7]) (by kernel_rfl) (by simp) ?_
        refine AllReadyH.cons rfl (fun K hK => ?_) AllReadyH.nil
        simp only [List.getElem_toArray, List.getElem_cons_zero, List.getElem_cons_succ]
        rw [if_pos (by rfl)]; refine wp_append_pairs (.tmp 38) (.tmp 40) 24 rfl W0.heap.size 52 Try.underlying24 info_chord v2 (.slice (some ⟨w2.heap.size, 0, none⟩) 1 1) ([] ++ xs.take m) [(c, d)] rfl rfl (hI2.later ((Below.refl _ _).alloc (Nat.le_refl _) _)) (Pairs.src hC) (by simp; omega) hHeld.1.size ?_; intro v3 w3 hI3 hg3 ho3
        refine hK.out _ _ (by (try dsimp only); exact keepS b0 b1 (Pairs.below (hI2.later ((Below.refl _ _).alloc (Nat.le_refl _) _)) hHeld.1 hHeld.1.size hg3)) (fun hHeld => ?_)
        clear hK K
        simp only [Act.put, List.setIfInBounds_toArray, List.set_cons_zero, List.set_cons_succ]
        refine wpAnyH_take (i := 8) (v := ?v51) rfl (by kernel_rfl) (by kernel_rfl) (by kernel_rfl) (fun _ _ _ h => h) (Or.inl ⟨by rfl, ?hy51⟩) (by assumption) ?rest51
        case hy51 => (intro w hSw; (try dsimp only at hSw); go_simp; (try with_reducible rfl))
        simp only [Act.put, List.getElem_toArray, List.getElem_cons_zero, List.getElem_cons_succ, List.setIfInBounds_toArray, List.set_cons_zero, List.set_cons_succ]
        refine wpAnyH_done (by kernel_rfl) ?_ _
        have HS3 := Lib.hid (HS2.out.later hHeld.1)
        have HN := Lib.hid hI3
        have HB := hHeld.1
        have hz3 := HB.size
        clear hHeld
        go_wp2_with (at_builtin; refine wpList_append_pairs rfl _ _ 24 rfl W0.heap.size 52 Try.underlying24 info_chord v3 _ ([] ++ xs.take m ++ [(c, d)]) (xs.drop m) rfl rfl HN.out HS3.out (by simp; omega) hz3 ?_; intro v4 w4 hI4 hg4 _; have H4 := Lib.hid hI4; have HB4 := Pairs.below HN.out HB hz3 hg4; clear hI4 hg4)
        go_ret
        exact ⟨_, rfl, ⟨H4.out.mono hWz, fun b hb => (H4.out.own b hb).2⟩, hW.trans (HB4.mono hWz)⟩
      · skip
        simp only [List.getElem_toArray, List.getElem_cons_zero, List.getElem_cons_succ]
        go_simp
        refine hK.out _ _ (by (try dsimp only); exact keepS b0 b1 (by go_grown)) (fun hHeld => ?_)
        clear hK K
        have hC := Pairs.boxedAt (W0.drew.alloc (.cells #[] 52)) W0.heap.size 52 [(c, d)] (W0.heap.size + 1) (by simp) (by omega) (by simp)
        have hI0' := hI0.out.later (w' := (W0.drew.alloc (.cells #[] 52)).alloc (.cells ((flatP [(c, d)]).map (Value.int .i64)).toArray 52)) ((Below.refl _ _).alloc (Nat.le_refl _) _)
        refine wpAnyH_ready (rs := [4]) (by kernel_rfl) (by simp) ?_
        refine AllReadyH.cons rfl (fun K hK => ?_) AllReadyH.nil
        simp only [List.getElem_toArray, List.getElem_cons_zero, List.getElem_cons_succ]
        rw [if_pos (by rfl)]; refine wp_append_pairs (.tmp 34) (.tmp 37) 24 rfl W0.heap.size 52 Try.underlying24 info_chord (.slice (some ⟨W0.heap.size, 0, none⟩) 0 0) (.slice none 0 0) [] (xs.take m) rfl rfl hI0' (HS1.out.later hHeld.1) (by simp; omega) hHeld.1.size ?_; intro v2 w2 hI2 hg2 ho2
        refine hK.out _ _ (by (try dsimp only); exact keepS b0 b1 (Pairs.below hI0' hHeld.1 hHeld.1.size hg2)) (fun hHeld => ?_)
        clear hK K
        simp only [Act.put, List.setIfInBounds_toArray, List.set_cons_zero, List.set_cons_succ]
        have hC2 := Pairs.keptBut hC hg2 (.inr (by simp [Value.ownBlock]))
        refine wpAnyH_ready (rs := [7]) (by kernel_rfl) (by simp) ?_
        refine AllReadyH.cons rfl (fun K hK => ?_) AllReadyH.nil
        simp only [List.getElem_toArray, List.getElem_cons_zero, List.getElem_cons_succ]
        rw [if_pos (by rfl)]; refine wp_append_pairs (.tmp 38) (.tmp 40) 24 rfl W0.heap.size 52 Try.underlying24 info_chord v2 (.slice (some ⟨(W0.heap.size + 1), 0, none⟩) 1 1) ([] ++ xs.take m) [(c, d)] rfl rfl hI2 (Pairs.src hC2) (by simp; omega) hHeld.1.size ?_; intro v3 w3 hI3 hg3 ho3
        refine hK.out _ _ (by (try dsimp only); exact keepS b0 b1 (Pairs.below hI2 hHeld.1 hHeld.1.size hg3)) (fun hHeld => ?_)
        clear hK K
        simp only [Act.put, List.setIfInBounds_toArray, List.set_cons_zero, List.set_cons_succ]
        refine wpAnyH_take (i := 8) (v := ?v52) rfl (by kernel_rfl) (by kernel_rfl) (by kernel_rfl) (fun _ _ _ h => h) (Or.inl ⟨by rfl, ?hy52⟩) (by assumption) ?rest52
        case hy52 => (intro w hSw; (try dsimp only at hSw); go_simp; (try with_reducible rfl))
        simp only [Act.put, List.getElem_toArray, List.getElem_cons_zero, List.getElem_cons_succ, List.setIfInBounds_toArray, List.set_cons_zero, List.set_cons_succ]
        refine wpAnyH_done (by kernel_rfl) ?_ _
        have HS3 := Lib.hid (HS2.out.later hHeld.1)
        have HN := Lib.hid hI3
        have HB := hHeld.1
        have hz3 := HB.size
        clear hHeld
        go_wp2_with (at_builtin; refine wpList_append_pairs rfl _ _ 24 rfl W0.heap.size 52 Try.underlying24 info_chord v3 _ ([] ++ xs.take m ++ [(c, d)]) (xs.drop m) rfl rfl HN.out HS3.out (by simp; omega) hz3 ?_; intro v4 w4 hI4 hg4 _; have H4 := Lib.hid hI4; have HB4 := Pairs.below HN.out HB hz3 hg4; clear hI4 hg4)
        go_ret
        exact ⟨_, rfl, ⟨H4.out.mono hWz, fun b hb => (H4.out.own b hb).2⟩, hW.trans (HB4.mono hWz)⟩
    · skip
      simp only [List.getElem_toArray, List.getElem_cons_zero, List.getElem_cons_succ]
      go_simp
      refine hK.out _ _ (by (try dsimp only); exact keepS b0 b1 (by go_grown)) (fun hHeld => ?_)
      clear hK K
      have hC := Pairs.boxed W0.drew W0.heap.size 52 [(c, d)] (by simp) (by simp)
      refine wpAnyH_ready (rs := [0]) (by kernel_rfl) (by simp) ?_
      refine AllReadyH.cons rfl (fun K hK => ?_) AllReadyH.nil
      simp only [List.getElem_toArray, List.getElem_cons_zero]
      go_simp
      refine hK.out _ _ (by (try dsimp only); exact keepS b0 b1 (by go_grown)) (fun hHeld => ?_)
      clear hK K
      have hI0' := Pairs.boxedAt (W0.drew.alloc (.cells ((flatP [(c, d)]).map (Value.int .i64)).toArray 52)) W0.heap.size 52 [] (W0.heap.size + 1) (by simp) (by omega) (by simp)
      have hC1 := hC.later (w' := (W0.drew.alloc (.cells ((flatP [(c, d)]).map (Value.int .i64)).toArray 52)).alloc (.cells #[] 52)) ((Below.refl _ _).alloc (Nat.le_refl _) _)
      refine wpAnyH_ready (rs := [4]) (by kernel_rfl) (by simp) ?_
      refine AllReadyH.cons rfl (fun K hK => ?_) AllReadyH.nil
      simp only [List.getElem_toArray, List.getElem_cons_zero, List.getElem_cons_succ]
      rw [if_pos (by rfl)]; refine wp_append_pairs (.tmp 34) (.tmp 37) 24 rfl W0.heap.size 52 Try.underlying24 info_chord (.slice (some ⟨(W0.heap.size + 1), 0, none⟩) 0 0) (.slice none 0 0) [] (xs.take m) rfl rfl hI0' (HS1.out.later hHeld.1) (by simp; omega) hHeld.1.size ?_; intro v2 w2 hI2 hg2 ho2
      refine hK.out _ _ (by (try dsimp only); exact keepS b0 b1 (Pairs.below hI0' hHeld.1 hHeld.1.size hg2)) (fun hHeld => ?_)
      clear hK K
      simp only [Act.put, List.setIfInBounds_toArray, List.set_cons_zero, List.set_cons_succ]
      have hC2 := Pairs.keptBut hC1 hg2 (.inr (by simp [Value.ownBlock]))
      refine wpAnyH_ready (rs := [7]) (by kernel_rfl) (by simp) ?_
      refine AllReadyH.cons rfl (fun K hK => ?_) AllReadyH.nil
      simp only [List.getElem_toArray, List.getElem_cons_zero, List.getElem_cons_succ]
      rw [if_pos (by rfl)]; refine wp_append_pairs (.tmp 38) (.tmp 40) 24 rfl W0.heap.size 52 Try.underlying24 info_chord v2 (.slice (some ⟨W0.heap.size, 0, none⟩) 1 1) ([] ++ xs.take m) [(c, d)] rfl rfl hI2 (Pairs.src hC2) (by simp; omega) hHeld.1.size ?_; intro v3 w3 hI3 hg3 ho3
      refine hK.out _ _ (by (try dsimp only); exact keepS b0 b1 (Pairs.below hI2 hHeld.1 hHeld.1.size hg3)) (fun hHeld => ?_)
      clear hK K
      simp only [Act.put, List.setIfInBounds_toArray, List.set_cons_zero, List.set_cons_succ]
      refine wpAnyH_take (i := 8) (v := ?v53) rfl (by kernel_rfl) (by kernel_rfl) (by kernel_rfl) (fun _ _ _ h => h) (Or.inl ⟨by rfl, ?hy53⟩) (by assumption) ?rest53
      case hy53 => (intro w hSw; (try dsimp only at hSw); go_simp; (try with_reducible rfl))
      simp only [Act.put, List.getElem_toArray, List.getElem_cons_zero, List.getElem_cons_succ, List.setIfInBounds_toArray, List.set_cons_zero, List.set_cons_succ]
      refine wpAnyH_done (by kernel_rfl) ?_ _
      have HS3 := Lib.hid (HS2.out.later hHeld.1)
      have HN := Lib.hid hI3
      have HB := hHeld.1
      have hz3 := HB.size
      clear hHeld
      go_wp2_with (at_builtin; refine wpList_append_pairs rfl _ _ 24 rfl W0.heap.size 52 Try.underlying24 info_chord v3 _ ([] ++ xs.take m ++ [(c, d)]) (xs.drop m) rfl rfl HN.out HS3.out (by simp; omega) hz3 ?_; intro v4 w4 hI4 hg4 _; have H4 := Lib.hid hI4; have HB4 := Pairs.below HN.out HB hz3 hg4; clear hI4 hg4)
      go_ret
      exact ⟨_, rfl, ⟨H4.out.mono hWz, fun b hb => (H4.out.own b hb).2⟩, hW.trans (HB4.mono hWz)⟩
end Go.Proofs.Ytnldnjgnpdicnaa
