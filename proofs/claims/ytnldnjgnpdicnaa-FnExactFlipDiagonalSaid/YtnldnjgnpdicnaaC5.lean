/- The model's chords in order: a chord that is not there is put into a list. -/
import Derived.Test.YtnldnjgnpdicnaaC4
namespace Go.Proofs.Ytnldnjgnpdicnaa
open Go.RowKit
set_option linter.unusedVariables false


set_option maxHeartbeats 2000000 in
theorem srPut_some (g cap : Nat) (xs : List (Int × Int)) (c d : Int) (B T : Nat) (w : World) (h : PairsIn 52 w B T (.slice (some ⟨g, 0, none⟩) xs.length cap) xs) (hT : T ≤ w.heap.size) (hn : xs.length ≤ 1000000) (hlc : xs.length ≤ cap) (hcm : cap ≤ maxLen)
    (hne : ¬ (headC (c, d) xs < xs.length ∧ xs.getD (headC (c, d) xs) (0, 0) = (c, d))) :
    Calls Try.prog 53 #[.slice (some ⟨g, 0, none⟩) xs.length cap, .agg #[.int .i64 c, .int .i64 d]] w fun e w' => ∃ v', e = .returned v' ∧ PairsIn 52 w' w.heap.size w'.heap.size v' (xs.take (headC (c, d) xs) ++ [(c, d)] ++ xs.drop (headC (c, d) xs)) ∧ Below w.heap.size w w' := by
  unfold maxLen at hcm
  have hg : g < T := h.2 g rfl
  have HS := Lib.hid h.1.src
  have hx1 := h.1.cell0
  have hy1 := h.1.cell1
  clear h
  have hb0 : Below w.heap.size w (w.alloc (.cells #[.int .i64 c, .int .i64 d] 52)) := (Below.refl _ _).alloc (Nat.le_refl _) _
  have X := Lib.hid (fun i (hi : i < xs.length) => cellB hb0 (hx1 i hi))
  have Y := Lib.hid (fun i (hi : i < xs.length) => cellB hb0 (hy1 i hi))
  have HL := Lib.hid (headC_less (c, d) xs)
  have HSt := Lib.hid (headC_stop (c, d) xs)
  have HNE := Lib.hid hne
  have hml := headC_le (c, d) xs
  obtain ⟨m, hm⟩ : ∃ m, m = headC (c, d) xs := ⟨_, rfl⟩
  rw [← hm] at HL HSt HNE hml ⊢
  clear hx1 hy1 hm hb0 hne
  have p0 : (w.alloc (.cells #[.int .i64 c, .int .i64 d] 52)).cell? ⟨w.heap.size, 0, none⟩ = some (.int .i64 c) := by go_simp
  have q0 : (w.alloc (.cells #[.int .i64 c, .int .i64 d] 52)).cell? ⟨w.heap.size, 1, none⟩ = some (.int .i64 d) := by go_simp
  have P0 := Lib.hid p0
  have Q0 := Lib.hid q0
  clear p0 q0
  go_enter Try.func53, Try.ntmps53
  go_wp2
  go_loopw [5] (fun i wr => ∃ k : Nat, k ≤ m ∧ i = .int .i64 k ∧ Below (w.heap.size + 1) (w.alloc (.cells #[.int .i64 c, .int .i64 d] 52)) wr) (fun i _ => m - (intOf i).toNat)
  case atStart => exact ⟨0, by omega, rfl, Below.refl _ _⟩
  case round =>
    obtain ⟨k, hkm, rfl, hB⟩ := hrel
    have hz := hB.size
    simp only [World.size_alloc] at hz
    have p1 : wr.cell? ⟨w.heap.size, 0, none⟩ = some (.int .i64 c) := (hB.cell (p := ⟨w.heap.size, 0, none⟩) (by show w.heap.size < _; omega)).trans P0.out
    have q1 : wr.cell? ⟨w.heap.size, 1, none⟩ = some (.int .i64 d) := (hB.cell (p := ⟨w.heap.size, 1, none⟩) (by show w.heap.size < _; omega)).trans Q0.out
    have hBw : Below w.heap.size w wr := Below.trans ((Below.refl _ _).alloc (Nat.le_refl _) _) (hB.mono (by omega))
    have hi1 : 0 ≤ (k : Int) := by omega
    by_cases hkl : k < xs.length
    · have hi2 : (k : Int) < (xs.length : Int) := by omega
      have cx : wr.cell? ⟨g, k * 2, none⟩ = some (.int .i64 (xs.getD k (0, 0)).1) := (hB.cell (p := ⟨g, k * 2, none⟩) (by show g < _; omega)).trans (X.out k (by omega))
      have cy : wr.cell? ⟨g, k * 2 + 1, none⟩ = some (.int .i64 (xs.getD k (0, 0)).2) := (hB.cell (p := ⟨g, k * 2 + 1, none⟩) (by show g < _; omega)).trans (Y.out k (by omega))
      obtain ⟨x, y, hxy⟩ : ∃ x y, xs.getD k (0, 0) = (x, y) := ⟨_, _, rfl⟩
      rw [hxy] at cx cy
      simp only at cx cy
      by_cases hkk : k = m
      · subst hkk
        have hS := HSt.out hkl
        have hE : ¬ (x, y) = (c, d) := fun e => HNE.out ⟨hkl, by rw [hxy, e]⟩
        rw [hxy] at hS
        have hq : (x == c) = false ∨ ((x == c) = true ∧ (y == d) = false) := by
          have : ¬ (x = c ∧ y = d) := fun e => hE (by rw [e.1, e.2])
          by_cases hxc : x = c
          · exact .inr ⟨by simpa using hxc, by simpa using fun e => this ⟨hxc, e⟩⟩
          · exact .inl (by simpa using hxc)
        have HSS := Lib.hid hS
        clear hS hE hxy
        go_wp2
        go_region_held3 (fun w' => w'.cell? ⟨g, k * 2, none⟩ = some (.int .i64 x) ∧ w'.cell? ⟨g, k * 2 + 1, none⟩ = some (.int .i64 y) ∧ w'.cell? ⟨w.heap.size, 0, none⟩ = some (.int .i64 c) ∧ w'.cell? ⟨w.heap.size, 1, none⟩ = some (.int .i64 d)) (go_keep)
          (first | (go_at_call 97; refine (srLess_any _ _ _ _ _).mono ?_; rintro e w1 ⟨rfl, hb⟩; rw [HSS.out]; have d1 := cellB hb cx; have d2 := cellB hb cy; have d3 := cellB hb p1; have d4 := cellB hb q1; (have hB2 : Below (w.heap.size + 1) (w.alloc (.cells #[.int .i64 c, .int .i64 d] 52)) w1 := by (refine Below.trans ?_ (hb.mono (by first | exact hz | (simp; omega))); go_grown))))
        go_wp2
        have hkc : (k : Int) ≤ (cap : Int) := by omega
        have hkl2 : (k : Int) ≤ (xs.length : Int) := by omega
        have hlc2 : (xs.length : Int) ≤ (cap : Int) := by omega
        rcases hq with hq | ⟨hq, hq2⟩
        · skip
          go_quiet (fail)
          go_wp2
          obtain ⟨W0, hW0⟩ : ∃ W0, W0 = w1.drewN nq := ⟨_, rfl⟩
          rw [← hW0]
          have b0 : W0.cell? ⟨w.heap.size, 0, none⟩ = some (.int .i64 c) := by rw [hW0]; exact d3
          have b1 : W0.cell? ⟨w.heap.size, 1, none⟩ = some (.int .i64 d) := by rw [hW0]; exact d4
          have hW : Below w.heap.size w W0 := by rw [hW0]; exact bdn (Below.trans ((Below.refl _ _).alloc (Nat.le_refl _) _) (hB2.mono (by omega))) _
          have hWz := hW.size
          have hbz : w.heap.size < W0.heap.size := by rw [hW0]; have := hB2.size; simp at this ⊢; omega
          have HS1 := Lib.hid (src_take (xs := xs) (k := k) (HS.out.later hW) (by omega))
          have HS2 := Lib.hid (fun c' => src_drop (xs := xs) (k := k) (c' := c') (HS.out.later hW) (by omega))
          have HU2 := Lib.hid (fun c' => src_drop_if (xs := xs) (k := k) (c' := c') (HS.out.later hW) (by omega) hlc)
          have HT2 := Lib.hid (fun (c' : Nat) (e : cap = k) => show SrcP W0 (.slice (some ⟨g, 0, none⟩) (xs.length - k) c') (xs.drop k) by have := src_drop_if (xs := xs) (k := k) (c' := c') (HS.out.later hW) (by omega) hlc; rwa [if_pos e] at this)
          clear hW0

          refine wp_region_held_drew (S := fun w' => Below W0.heap.size W0 w' ∧ w'.cell? ⟨w.heap.size, 0, none⟩ = some (.int .i64 c) ∧ w'.cell? ⟨w.heap.size, 1, none⟩ = some (.int .i64 d)) (by kernel_rfl) (by (try dsimp only); exact keepS b0 b1 (by go_grown)) (fun hHeld => ?_)
          refine wpAnyH_take (i := 1) (v := ?v54) rfl (by kernel_rfl) (by kernel_rfl) (by kernel_rfl) (fun _ _ _ h => h) (Or.inl ⟨by rfl, ?hy54⟩) (by assumption) ?rest54
          case hy54 => (intro w hSw; (try dsimp only at hSw); go_simp; (try with_reducible rfl))
          simp only [Act.put, List.getElem_toArray, List.getElem_cons_zero, List.getElem_cons_succ, List.setIfInBounds_toArray, List.set_cons_zero, List.set_cons_succ]
          refine wpAnyH_take (i := 2) (v := ?v55) rfl (by kernel_rfl) (by kernel_rfl) (by kernel_rfl) (fun _ _ _ h => h) (Or.inl ⟨by rfl, ?hy55⟩) (by assumption) ?rest55
          case hy55 => (intro w hSw; (try dsimp only at hSw); go_simp; (try with_reducible rfl))
          simp only [Act.put, List.getElem_toArray, List.getElem_cons_zero, List.getElem_cons_succ, List.setIfInBounds_toArray, List.set_cons_zero, List.set_cons_succ]
          refine wpAnyH_take (i := 3) (v := ?v56) rfl (by kernel_rfl) (by kernel_rfl) (by kernel_rfl) (fun _ _ _ h => h) (Or.inl ⟨by rfl, ?hy56⟩) (by assumption) ?rest56
          case hy56 => (intro w hSw; (try dsimp only at hSw); go_simp; (try with_reducible rfl))
          simp only [Act.put, List.getElem_toArray, List.getElem_cons_zero, List.getElem_cons_succ, List.setIfInBounds_toArray, List.set_cons_zero, List.set_cons_succ]
          refine wpAnyH_take (i := 5) (v := ?v57) rfl (by kernel_rfl) (by kernel_rfl) (by kernel_rfl) (fun _ _ _ h => h) (Or.inl ⟨by rfl, ?hy57⟩) (by assumption) ?rest57
          case hy57 => (intro w hSw; (try dsimp only at hSw); go_simp; (try with_reducible rfl))
          simp only [Act.put, List.getElem_toArray, List.getElem_cons_zero, List.getElem_cons_succ, List.setIfInBounds_toArray, List.set_cons_zero, List.set_cons_succ]
          refine wpAnyH_ready (rs := [0, 6]) (by kernel_rfl) (by simp) ?_
          refine AllReadyH.cons rfl (fun K hK => ?_) (AllReadyH.cons rfl (fun K hK => ?_) AllReadyH.nil)
          · skip
            simp only [List.getElem_toArray, List.getElem_cons_zero]
            go_simp
            refine hK.out _ _ (by (try dsimp only); exact keepS b0 b1 (by go_grown)) (fun hHeld => ?_)
            clear hK K
            have hI0 := Lib.hid (Pairs.boxed W0.drew W0.heap.size 52 [] (Nat.le_refl _) (by simp))
            refine wpAnyH_ready (rs := [4, 6]) (by kernel_rfl) (by simp) ?_
            refine AllReadyH.cons rfl (fun K hK => ?_) (AllReadyH.cons rfl (fun K hK => ?_) AllReadyH.nil)
            · skip
              simp only [List.getElem_toArray, List.getElem_cons_zero, List.getElem_cons_succ]
              rw [if_pos (by rfl)]; refine wp_append_pairs (.tmp 34) (.tmp 37) 24 rfl W0.heap.size 52 Try.underlying24 info_chord (.slice (some ⟨W0.heap.size, 0, none⟩) 0 0) (.slice (some ⟨g, 0, none⟩) k cap) [] (xs.take k) rfl rfl hI0.out (HS1.out.later hHeld.1) (by simp; omega) hHeld.1.size ?_; intro v2 w2 hI2 hg2 ho2
              refine hK.out _ _ (by (try dsimp only); exact keepS b0 b1 (Pairs.below hI0.out hHeld.1 hHeld.1.size hg2)) (fun hHeld => ?_)
              clear hK K
              simp only [Act.put, List.setIfInBounds_toArray, List.set_cons_zero, List.set_cons_succ]
              have hb2' := hHeld.1
              refine wpAnyH_ready (rs := [6]) (by kernel_rfl) (by simp) ?_
              refine AllReadyH.cons rfl (fun K hK => ?_) AllReadyH.nil
              simp only [List.getElem_toArray, List.getElem_cons_zero, List.getElem_cons_succ]
              go_simp
              refine hK.out _ _ (by (try dsimp only); exact keepS b0 b1 (hb2'.alloc hb2'.size _)) (fun hHeld => ?_)
              clear hK K
              have hC := Pairs.boxed w2 W0.heap.size 52 [(c, d)] (by have := hb2'.size; omega) (by simp)
              refine wpAnyH_ready (rs := [7]) (by kernel_rfl) (by simp) ?_
              refine AllReadyH.cons rfl (fun K hK => ?_) AllReadyH.nil
              simp only [List.getElem_toArray, List.getElem_cons_zero, List.getElem_cons_succ]
              rw [if_pos (by rfl)]; refine wp_append_pairs (.tmp 38) (.tmp 40) 24 rfl W0.heap.size 52 Try.underlying24 info_chord v2 (.slice (some ⟨w2.heap.size, 0, none⟩) 1 1) ([] ++ xs.take k) [(c, d)] rfl rfl (hI2.later ((Below.refl _ _).alloc (Nat.le_refl _) _)) (Pairs.src hC) (by simp; omega) hHeld.1.size ?_; intro v3 w3 hI3 hg3 ho3
              refine hK.out _ _ (by (try dsimp only); exact keepS b0 b1 (Pairs.below (hI2.later ((Below.refl _ _).alloc (Nat.le_refl _) _)) hHeld.1 hHeld.1.size hg3)) (fun hHeld => ?_)
              clear hK K
              simp only [Act.put, List.setIfInBounds_toArray, List.set_cons_zero, List.set_cons_succ]
              refine wpAnyH_take (i := 8) (v := ?v58) rfl (by kernel_rfl) (by kernel_rfl) (by kernel_rfl) (fun _ _ _ h => h) (Or.inl ⟨by rfl, ?hy58⟩) (by assumption) ?rest58
              case hy58 => (intro w hSw; (try dsimp only at hSw); go_simp; (try with_reducible rfl))
              simp only [Act.put, List.getElem_toArray, List.getElem_cons_zero, List.getElem_cons_succ, List.setIfInBounds_toArray, List.set_cons_zero, List.set_cons_succ]
              refine wpAnyH_done (by kernel_rfl) ?_ _
              have HS3 := Lib.hid (fun c' => (HS2.out c').later hHeld.1)
              have HT3 := Lib.hid (fun c' e => (HT2.out c' e).later hHeld.1)
              have HU3 := Lib.hid (fun c' => (HU2.out c').later hHeld.1)
              have HN := Lib.hid hI3
              have HB := hHeld.1
              have hz3 := HB.size
              clear hHeld
              go_wp2_with (first | (at_builtin; refine wpList_append_pairs rfl _ _ 24 rfl W0.heap.size 52 Try.underlying24 info_chord v3 _ _ _ rfl rfl HN.out (HS3.out _) (by simp; omega) hz3 ?_; intro v4 w4 hI4 hg4 _; have H4 := Lib.hid hI4; have HB4 := Pairs.below HN.out HB hz3 hg4; clear hI4 hg4) | (at_builtin; refine wpList_append_pairs rfl _ _ 24 rfl W0.heap.size 52 Try.underlying24 info_chord v3 _ _ _ rfl rfl HN.out (HT3.out _ (by first | assumption | rfl)) (by simp; omega) hz3 ?_; intro v4 w4 hI4 hg4 _; have H4 := Lib.hid hI4; have HB4 := Pairs.below HN.out HB hz3 hg4; clear hI4 hg4) | (at_builtin; refine wpList_append_pairs rfl _ _ 24 rfl W0.heap.size 52 Try.underlying24 info_chord v3 _ _ _ rfl rfl HN.out (HS3.out _) (by simp; omega) hz3 ?_; intro v4 w4 hI4 hg4 _; have H4 := Lib.hid hI4; have HB4 := Pairs.below HN.out HB hz3 hg4; clear hI4 hg4) | (at_builtin; refine wpList_append_pairs rfl _ _ 24 rfl W0.heap.size 52 Try.underlying24 info_chord v3 _ _ _ rfl rfl HN.out (HU3.out _) (by simp; omega) hz3 ?_; intro v4 w4 hI4 hg4 _; have H4 := Lib.hid hI4; have HB4 := Pairs.below HN.out HB hz3 hg4; clear hI4 hg4))
              all_goals
                go_ret
                exact ⟨_, rfl, ⟨by first | exact H4.out.mono hWz | (have hh := H4.out.mono hWz; rw [List.nil_append, List.append_assoc, List.singleton_append] at hh; exact hh), fun b hb => (H4.out.own b hb).2⟩, hW.trans (HB4.mono hWz)⟩
            · skip
              simp only [List.getElem_toArray, List.getElem_cons_zero, List.getElem_cons_succ]
              go_simp
              refine hK.out _ _ (by (try dsimp only); exact keepS b0 b1 (by go_grown)) (fun hHeld => ?_)
              clear hK K
              have hC := Pairs.boxedAt (W0.drew.alloc (.cells #[] 52)) W0.heap.size 52 [(c, d)] (W0.heap.size + 1) (by simp) (by omega) (by simp)
              have hI0' := hI0.out.later (w' := (W0.drew.alloc (.cells #[] 52)).alloc (.cells ((flatP [(c, d)]).map (Value.int .i64)).toArray 52)) ((Below.refl _ _).alloc (Nat.le_refl _) _)
              refine wpAnyH_ready (rs := [4]) (by kernel_rfl) (by simp) ?_
              refine AllReadyH.cons rfl (fun K hK => ?_) AllReadyH.nil
              simp only [List.getElem_toArray, List.getElem_cons_zero, List.getElem_cons_succ]
              rw [if_pos (by rfl)]; refine wp_append_pairs (.tmp 34) (.tmp 37) 24 rfl W0.heap.size 52 Try.underlying24 info_chord (.slice (some ⟨W0.heap.size, 0, none⟩) 0 0) (.slice (some ⟨g, 0, none⟩) k cap) [] (xs.take k) rfl rfl hI0' (HS1.out.later hHeld.1) (by simp; omega) hHeld.1.size ?_; intro v2 w2 hI2 hg2 ho2
              refine hK.out _ _ (by (try dsimp only); exact keepS b0 b1 (Pairs.below hI0' hHeld.1 hHeld.1.size hg2)) (fun hHeld => ?_)
              clear hK K
              simp only [Act.put, List.setIfInBounds_toArray, List.set_cons_zero, List.set_cons_succ]
              have hC2 := Pairs.keptBut hC hg2 (.inr (by simp [Value.ownBlock]))
              refine wpAnyH_ready (rs := [7]) (by kernel_rfl) (by simp) ?_
              refine AllReadyH.cons rfl (fun K hK => ?_) AllReadyH.nil
              simp only [List.getElem_toArray, List.getElem_cons_zero, List.getElem_cons_succ]
              rw [if_pos (by rfl)]; refine wp_append_pairs (.tmp 38) (.tmp 40) 24 rfl W0.heap.size 52 Try.underlying24 info_chord v2 (.slice (some ⟨(W0.heap.size + 1), 0, none⟩) 1 1) ([] ++ xs.take k) [(c, d)] rfl rfl hI2 (Pairs.src hC2) (by simp; omega) hHeld.1.size ?_; intro v3 w3 hI3 hg3 ho3
              refine hK.out _ _ (by (try dsimp only); exact keepS b0 b1 (Pairs.below hI2 hHeld.1 hHeld.1.size hg3)) (fun hHeld => ?_)
              clear hK K
              simp only [Act.put, List.setIfInBounds_toArray, List.set_cons_zero, List.set_cons_succ]
              refine wpAnyH_take (i := 8) (v := ?v59) rfl (by kernel_rfl) (by kernel_rfl) (by kernel_rfl) (fun _ _ _ h => h) (Or.inl ⟨by rfl, ?hy59⟩) (by assumption) ?rest59
              case hy59 => (intro w hSw; (try dsimp only at hSw); go_simp; (try with_reducible rfl))
              simp only [Act.put, List.getElem_toArray, List.getElem_cons_zero, List.getElem_cons_succ, List.setIfInBounds_toArray, List.set_cons_zero, List.set_cons_succ]
              refine wpAnyH_done (by kernel_rfl) ?_ _
              have HS3 := Lib.hid (fun c' => (HS2.out c').later hHeld.1)
              have HT3 := Lib.hid (fun c' e => (HT2.out c' e).later hHeld.1)
              have HU3 := Lib.hid (fun c' => (HU2.out c').later hHeld.1)
              have HN := Lib.hid hI3
              have HB := hHeld.1
              have hz3 := HB.size
              clear hHeld
              go_wp2_with (first | (at_builtin; refine wpList_append_pairs rfl _ _ 24 rfl W0.heap.size 52 Try.underlying24 info_chord v3 _ _ _ rfl rfl HN.out (HS3.out _) (by simp; omega) hz3 ?_; intro v4 w4 hI4 hg4 _; have H4 := Lib.hid hI4; have HB4 := Pairs.below HN.out HB hz3 hg4; clear hI4 hg4) | (at_builtin; refine wpList_append_pairs rfl _ _ 24 rfl W0.heap.size 52 Try.underlying24 info_chord v3 _ _ _ rfl rfl HN.out (HT3.out _ (by first | assumption | rfl)) (by simp; omega) hz3 ?_; intro v4 w4 hI4 hg4 _; have H4 := Lib.hid hI4; have HB4 := Pairs.below HN.out HB hz3 hg4; clear hI4 hg4) | (at_builtin; refine wpList_append_pairs rfl _ _ 24 rfl W0.heap.size 52 Try.underlying24 info_chord v3 _ _ _ rfl rfl HN.out (HS3.out _) (by simp; omega) hz3 ?_; intro v4 w4 hI4 hg4 _; have H4 := Lib.hid hI4; have HB4 := Pairs.below HN.out HB hz3 hg4; clear hI4 hg4) | (at_builtin; refine wpList_append_pairs rfl _ _ 24 rfl W0.heap.size 52 Try.underlying24 info_chord v3 _ _ _ rfl rfl HN.out (HU3.out _) (by simp; omega) hz3 ?_; intro v4 w4 hI4 hg4 _; have H4 := Lib.hid hI4; have HB4 := Pairs.below HN.out HB hz3 hg4; clear hI4 hg4))
              all_goals
                go_ret
                exact ⟨_, rfl, ⟨by first | exact H4.out.mono hWz | (have hh := H4.out.mono hWz; rw [List.nil_append, List.append_assoc, List.singleton_append] at hh; exact hh), fun b hb => (H4.out.own b hb).2⟩, hW.trans (HB4.mono hWz)⟩
          · skip
            simp only [List.getElem_toArray, List.getElem_cons_zero, List.getElem_cons_succ]
            go_simp
            refine hK.out _ _ (by (try dsimp only); exact keepS b0 b1 (by go_grown)) (fun hHeld => ?_)
            clear hK K
            have hC := Pairs.boxed W0.drew W0.heap.size 52 [(c, d)] (by simp) (by simp)
            refine wpAnyH_ready (rs := [0]) (by kernel_rfl) (by simp) ?_
            refine AllReadyH.cons rfl (fun K hK => ?_) AllReadyH.nil
            simp only [List.getElem_toArray, List.getElem_cons_zero]
            go_simp
            refine hK.out _ _ (by (try dsimp only); exact keepS b0 b1 (by go_grown)) (fun hHeld => ?_)
            clear hK K
            have hI0' := Pairs.boxedAt (W0.drew.alloc (.cells ((flatP [(c, d)]).map (Value.int .i64)).toArray 52)) W0.heap.size 52 [] (W0.heap.size + 1) (by simp) (by omega) (by simp)
            have hC1 := hC.later (w' := (W0.drew.alloc (.cells ((flatP [(c, d)]).map (Value.int .i64)).toArray 52)).alloc (.cells #[] 52)) ((Below.refl _ _).alloc (Nat.le_refl _) _)
            refine wpAnyH_ready (rs := [4]) (by kernel_rfl) (by simp) ?_
            refine AllReadyH.cons rfl (fun K hK => ?_) AllReadyH.nil
            simp only [List.getElem_toArray, List.getElem_cons_zero, List.getElem_cons_succ]
            rw [if_pos (by rfl)]; refine wp_append_pairs (.tmp 34) (.tmp 37) 24 rfl W0.heap.size 52 Try.underlying24 info_chord (.slice (some ⟨(W0.heap.size + 1), 0, none⟩) 0 0) (.slice (some ⟨g, 0, none⟩) k cap) [] (xs.take k) rfl rfl hI0' (HS1.out.later hHeld.1) (by simp; omega) hHeld.1.size ?_; intro v2 w2 hI2 hg2 ho2
            refine hK.out _ _ (by (try dsimp only); exact keepS b0 b1 (Pairs.below hI0' hHeld.1 hHeld.1.size hg2)) (fun hHeld => ?_)
            clear hK K
            simp only [Act.put, List.setIfInBounds_toArray, List.set_cons_zero, List.set_cons_succ]
            have hC2 := Pairs.keptBut hC1 hg2 (.inr (by simp [Value.ownBlock]))
            refine wpAnyH_ready (rs := [7]) (by kernel_rfl) (by simp) ?_
            refine AllReadyH.cons rfl (fun K hK => ?_) AllReadyH.nil
            simp only [List.getElem_toArray, List.getElem_cons_zero, List.getElem_cons_succ]
            rw [if_pos (by rfl)]; refine wp_append_pairs (.tmp 38) (.tmp 40) 24 rfl W0.heap.size 52 Try.underlying24 info_chord v2 (.slice (some ⟨W0.heap.size, 0, none⟩) 1 1) ([] ++ xs.take k) [(c, d)] rfl rfl hI2 (Pairs.src hC2) (by simp; omega) hHeld.1.size ?_; intro v3 w3 hI3 hg3 ho3
            refine hK.out _ _ (by (try dsimp only); exact keepS b0 b1 (Pairs.below hI2 hHeld.1 hHeld.1.size hg3)) (fun hHeld => ?_)
            clear hK K
            simp only [Act.put, List.setIfInBounds_toArray, List.set_cons_zero, List.set_cons_succ]
            refine wpAnyH_take (i := 8) (v := ?v60) rfl (by kernel_rfl) (by kernel_rfl) (by kernel_rfl) (fun _ _ _ h => h) (Or.inl ⟨by rfl, ?hy60⟩) (by assumption) ?rest60
            case hy60 => (intro w hSw; (try dsimp only at hSw); go_simp; (try with_reducible rfl))
            simp only [Act.put, List.getElem_toArray, List.getElem_cons_zero, List.getElem_cons_succ, List.setIfInBounds_toArray, List.set_cons_zero, List.set_cons_succ]
            refine wpAnyH_done (by kernel_rfl) ?_ _
            have HS3 := Lib.hid (fun c' => (HS2.out c').later hHeld.1)
            have HT3 := Lib.hid (fun c' e => (HT2.out c' e).later hHeld.1)
            have HU3 := Lib.hid (fun c' => (HU2.out c').later hHeld.1)
            have HN := Lib.hid hI3
            have HB := hHeld.1
            have hz3 := HB.size
            clear hHeld
            go_wp2_with (first | (at_builtin; refine wpList_append_pairs rfl _ _ 24 rfl W0.heap.size 52 Try.underlying24 info_chord v3 _ _ _ rfl rfl HN.out (HS3.out _) (by simp; omega) hz3 ?_; intro v4 w4 hI4 hg4 _; have H4 := Lib.hid hI4; have HB4 := Pairs.below HN.out HB hz3 hg4; clear hI4 hg4) | (at_builtin; refine wpList_append_pairs rfl _ _ 24 rfl W0.heap.size 52 Try.underlying24 info_chord v3 _ _ _ rfl rfl HN.out (HT3.out _ (by first | assumption | rfl)) (by simp; omega) hz3 ?_; intro v4 w4 hI4 hg4 _; have H4 := Lib.hid hI4; have HB4 := Pairs.below HN.out HB hz3 hg4; clear hI4 hg4) | (at_builtin; refine wpList_append_pairs rfl _ _ 24 rfl W0.heap.size 52 Try.underlying24 info_chord v3 _ _ _ rfl rfl HN.out (HS3.out _) (by simp; omega) hz3 ?_; intro v4 w4 hI4 hg4 _; have H4 := Lib.hid hI4; have HB4 := Pairs.below HN.out HB hz3 hg4; clear hI4 hg4) | (at_builtin; refine wpList_append_pairs rfl _ _ 24 rfl W0.heap.size 52 Try.underlying24 info_chord v3 _ _ _ rfl rfl HN.out (HU3.out _) (by simp; omega) hz3 ?_; intro v4 w4 hI4 hg4 _; have H4 := Lib.hid hI4; have HB4 := Pairs.below HN.out HB hz3 hg4; clear hI4 hg4))
            all_goals
              go_ret
              exact ⟨_, rfl, ⟨by first | exact H4.out.mono hWz | (have hh := H4.out.mono hWz; rw [List.nil_append, List.append_assoc, List.singleton_append] at hh; exact hh), fun b hb => (H4.out.own b hb).2⟩, hW.trans (HB4.mono hWz)⟩
        · skip
          go_quiet (fail)
          go_wp2
          obtain ⟨W0, hW0⟩ : ∃ W0, W0 = w1.drewN nq := ⟨_, rfl⟩
          rw [← hW0]
          have b0 : W0.cell? ⟨w.heap.size, 0, none⟩ = some (.int .i64 c) := by rw [hW0]; exact d3
          have b1 : W0.cell? ⟨w.heap.size, 1, none⟩ = some (.int .i64 d) := by rw [hW0]; exact d4
          have hW : Below w.heap.size w W0 := by rw [hW0]; exact bdn (Below.trans ((Below.refl _ _).alloc (Nat.le_refl _) _) (hB2.mono (by omega))) _
          have hWz := hW.size
          have hbz : w.heap.size < W0.heap.size := by rw [hW0]; have := hB2.size; simp at this ⊢; omega
          have HS1 := Lib.hid (src_take (xs := xs) (k := k) (HS.out.later hW) (by omega))
          have HS2 := Lib.hid (fun c' => src_drop (xs := xs) (k := k) (c' := c') (HS.out.later hW) (by omega))
          have HU2 := Lib.hid (fun c' => src_drop_if (xs := xs) (k := k) (c' := c') (HS.out.later hW) (by omega) hlc)
          have HT2 := Lib.hid (fun (c' : Nat) (e : cap = k) => show SrcP W0 (.slice (some ⟨g, 0, none⟩) (xs.length - k) c') (xs.drop k) by have := src_drop_if (xs := xs) (k := k) (c' := c') (HS.out.later hW) (by omega) hlc; rwa [if_pos e] at this)
          clear hW0

          refine wp_region_held_drew (S := fun w' => Below W0.heap.size W0 w' ∧ w'.cell? ⟨w.heap.size, 0, none⟩ = some (.int .i64 c) ∧ w'.cell? ⟨w.heap.size, 1, none⟩ = some (.int .i64 d)) (by kernel_rfl) (by (try dsimp only); exact keepS b0 b1 (by go_grown)) (fun hHeld => ?_)
          refine wpAnyH_take (i := 1) (v := ?v61) rfl (by kernel_rfl) (by kernel_rfl) (by kernel_rfl) (fun _ _ _ h => h) (Or.inl ⟨by rfl, ?hy61⟩) (by assumption) ?rest61
          case hy61 => (intro w hSw; (try dsimp only at hSw); go_simp; (try with_reducible rfl))
          simp only [Act.put, List.getElem_toArray, List.getElem_cons_zero, List.getElem_cons_succ, List.setIfInBounds_toArray, List.set_cons_zero, List.set_cons_succ]
          refine wpAnyH_take (i := 2) (v := ?v62) rfl (by kernel_rfl) (by kernel_rfl) (by kernel_rfl) (fun _ _ _ h => h) (Or.inl ⟨by rfl, ?hy62⟩) (by assumption) ?rest62
          case hy62 => (intro w hSw; (try dsimp only at hSw); go_simp; (try with_reducible rfl))
          simp only [Act.put, List.getElem_toArray, List.getElem_cons_zero, List.getElem_cons_succ, List.setIfInBounds_toArray, List.set_cons_zero, List.set_cons_succ]
          refine wpAnyH_take (i := 3) (v := ?v63) rfl (by kernel_rfl) (by kernel_rfl) (by kernel_rfl) (fun _ _ _ h => h) (Or.inl ⟨by rfl, ?hy63⟩) (by assumption) ?rest63
          case hy63 => (intro w hSw; (try dsimp only at hSw); go_simp; (try with_reducible rfl))
          simp only [Act.put, List.getElem_toArray, List.getElem_cons_zero, List.getElem_cons_succ, List.setIfInBounds_toArray, List.set_cons_zero, List.set_cons_succ]
          refine wpAnyH_take (i := 5) (v := ?v64) rfl (by kernel_rfl) (by kernel_rfl) (by kernel_rfl) (fun _ _ _ h => h) (Or.inl ⟨by rfl, ?hy64⟩) (by assumption) ?rest64
          case hy64 => (intro w hSw; (try dsimp only at hSw); go_simp; (try with_reducible rfl))
          simp only [Act.put, List.getElem_toArray, List.getElem_cons_zero, List.getElem_cons_succ, List.setIfInBounds_toArray, List.set_cons_zero, List.set_cons_succ]
          refine wpAnyH_ready (rs := [0, 6]) (by kernel_rfl) (by simp) ?_
          refine AllReadyH.cons rfl (fun K hK => ?_) (AllReadyH.cons rfl (fun K hK => ?_) AllReadyH.nil)
          · skip
            simp only [List.getElem_toArray, List.getElem_cons_zero]
            go_simp
            refine hK.out _ _ (by (try dsimp only); exact keepS b0 b1 (by go_grown)) (fun hHeld => ?_)
            clear hK K
            have hI0 := Lib.hid (Pairs.boxed W0.drew W0.heap.size 52 [] (Nat.le_refl _) (by simp))
            refine wpAnyH_ready (rs := [4, 6]) (by kernel_rfl) (by simp) ?_
            refine AllReadyH.cons rfl (fun K hK => ?_) (AllReadyH.cons rfl (fun K hK => ?_) AllReadyH.nil)
            · skip
              simp only [List.getElem_toArray, List.getElem_cons_zero, List.getElem_cons_succ]
              rw [if_pos (by rfl)]; refine wp_append_pairs (.tmp 34) (.tmp 37) 24 rfl W0.heap.size 52 Try.underlying24 info_chord (.slice (some ⟨W0.heap.size, 0, none⟩) 0 0) (.slice (some ⟨g, 0, none⟩) k cap) [] (xs.take k) rfl rfl hI0.out (HS1.out.later hHeld.1) (by simp; omega) hHeld.1.size ?_; intro v2 w2 hI2 hg2 ho2
              refine hK.out _ _ (by (try dsimp only); exact keepS b0 b1 (Pairs.below hI0.out hHeld.1 hHeld.1.size hg2)) (fun hHeld => ?_)
              clear hK K
              simp only [Act.put, List.setIfInBounds_toArray, List.set_cons_zero, List.set_cons_succ]
              have hb2' := hHeld.1
              refine wpAnyH_ready (rs := [6]) (by kernel_rfl) (by simp) ?_
              refine AllReadyH.cons rfl (fun K hK => ?_) AllReadyH.nil
              simp only [List.getElem_toArray, List.getElem_cons_zero, List.getElem_cons_succ]
              go_simp
              refine hK.out _ _ (by (try dsimp only); exact keepS b0 b1 (hb2'.alloc hb2'.size _)) (fun hHeld => ?_)
              clear hK K
              have hC := Pairs.boxed w2 W0.heap.size 52 [(c, d)] (by have := hb2'.size; omega) (by simp)
              refine wpAnyH_ready (rs := [7]) (by kernel_rfl) (by simp) ?_
              refine AllReadyH.cons rfl (fun K hK => ?_) AllReadyH.nil
              simp only [List.getElem_toArray, List.getElem_cons_zero, List.getElem_cons_succ]
              rw [if_pos (by rfl)]; refine wp_append_pairs (.tmp 38) (.tmp 40) 24 rfl W0.heap.size 52 Try.underlying24 info_chord v2 (.slice (some ⟨w2.heap.size, 0, none⟩) 1 1) ([] ++ xs.take k) [(c, d)] rfl rfl (hI2.later ((Below.refl _ _).alloc (Nat.le_refl _) _)) (Pairs.src hC) (by simp; omega) hHeld.1.size ?_; intro v3 w3 hI3 hg3 ho3
              refine hK.out _ _ (by (try dsimp only); exact keepS b0 b1 (Pairs.below (hI2.later ((Below.refl _ _).alloc (Nat.le_refl _) _)) hHeld.1 hHeld.1.size hg3)) (fun hHeld => ?_)
              clear hK K
              simp only [Act.put, List.setIfInBounds_toArray, List.set_cons_zero, List.set_cons_succ]
              refine wpAnyH_take (i := 8) (v := ?v65) rfl (by kernel_rfl) (by kernel_rfl) (by kernel_rfl) (fun _ _ _ h => h) (Or.inl ⟨by rfl, ?hy65⟩) (by assumption) ?rest65
              case hy65 => (intro w hSw; (try dsimp only at hSw); go_simp; (try with_reducible rfl))
              simp only [Act.put, List.getElem_toArray, List.getElem_cons_zero, List.getElem_cons_succ, List.setIfInBounds_toArray, List.set_cons_zero, List.set_cons_succ]
              refine wpAnyH_done (by kernel_rfl) ?_ _
              have HS3 := Lib.hid (fun c' => (HS2.out c').later hHeld.1)
              have HT3 := Lib.hid (fun c' e => (HT2.out c' e).later hHeld.1)
              have HU3 := Lib.hid (fun c' => (HU2.out c').later hHeld.1)
              have HN := Lib.hid hI3
              have HB := hHeld.1
              have hz3 := HB.size
              clear hHeld
              go_wp2_with (first | (at_builtin; refine wpList_append_pairs rfl _ _ 24 rfl W0.heap.size 52 Try.underlying24 info_chord v3 _ _ _ rfl rfl HN.out (HS3.out _) (by simp; omega) hz3 ?_; intro v4 w4 hI4 hg4 _; have H4 := Lib.hid hI4; have HB4 := Pairs.below HN.out HB hz3 hg4; clear hI4 hg4) | (at_builtin; refine wpList_append_pairs rfl _ _ 24 rfl W0.heap.size 52 Try.underlying24 info_chord v3 _ _ _ rfl rfl HN.out (HT3.out _ (by first | assumption | rfl)) (by simp; omega) hz3 ?_; intro v4 w4 hI4 hg4 _; have H4 := Lib.hid hI4; have HB4 := Pairs.below HN.out HB hz3 hg4; clear hI4 hg4) | (at_builtin; refine wpList_append_pairs rfl _ _ 24 rfl W0.heap.size 52 Try.underlying24 info_chord v3 _ _ _ rfl rfl HN.out (HS3.out _) (by simp; omega) hz3 ?_; intro v4 w4 hI4 hg4 _; have H4 := Lib.hid hI4; have HB4 := Pairs.below HN.out HB hz3 hg4; clear hI4 hg4) | (at_builtin; refine wpList_append_pairs rfl _ _ 24 rfl W0.heap.size 52 Try.underlying24 info_chord v3 _ _ _ rfl rfl HN.out (HU3.out _) (by simp; omega) hz3 ?_; intro v4 w4 hI4 hg4 _; have H4 := Lib.hid hI4; have HB4 := Pairs.below HN.out HB hz3 hg4; clear hI4 hg4))
              all_goals
                go_ret
                exact ⟨_, rfl, ⟨by first | exact H4.out.mono hWz | (have hh := H4.out.mono hWz; rw [List.nil_append, List.append_assoc, List.singleton_append] at hh; exact hh), fun b hb => (H4.out.own b hb).2⟩, hW.trans (HB4.mono hWz)⟩
            · skip
              simp only [List.getElem_toArray, List.getElem_cons_zero, List.getElem_cons_succ]
              go_simp
              refine hK.out _ _ (by (try dsimp only); exact keepS b0 b1 (by go_grown)) (fun hHeld => ?_)
              clear hK K
              have hC := Pairs.boxedAt (W0.drew.alloc (.cells #[] 52)) W0.heap.size 52 [(c, d)] (W0.heap.size + 1) (by simp) (by omega) (by simp)
              have hI0' := hI0.out.later (w' := (W0.drew.alloc (.cells #[] 52)).alloc (.cells ((flatP [(c, d)]).map (Value.int .i64)).toArray 52)) ((Below.refl _ _).alloc (Nat.le_refl _) _)
              refine wpAnyH_ready (rs := [4]) (by kernel_rfl) (by simp) ?_
              refine AllReadyH.cons rfl (fun K hK => ?_) AllReadyH.nil
              simp only [List.getElem_toArray, List.getElem_cons_zero, List.getElem_cons_succ]
              rw [if_pos (by rfl)]; refine wp_append_pairs (.tmp 34) (.tmp 37) 24 rfl W0.heap.size 52 Try.underlying24 info_chord (.slice (some ⟨W0.heap.size, 0, none⟩) 0 0) (.slice (some ⟨g, 0, none⟩) k cap) [] (xs.take k) rfl rfl hI0' (HS1.out.later hHeld.1) (by simp; omega) hHeld.1.size ?_; intro v2 w2 hI2 hg2 ho2
              refine hK.out _ _ (by (try dsimp only); exact keepS b0 b1 (Pairs.below hI0' hHeld.1 hHeld.1.size hg2)) (fun hHeld => ?_)
              clear hK K
              simp only [Act.put, List.setIfInBounds_toArray, List.set_cons_zero, List.set_cons_succ]
              have hC2 := Pairs.keptBut hC hg2 (.inr (by simp [Value.ownBlock]))
              refine wpAnyH_ready (rs := [7]) (by kernel_rfl) (by simp) ?_
              refine AllReadyH.cons rfl (fun K hK => ?_) AllReadyH.nil
              simp only [List.getElem_toArray, List.getElem_cons_zero, List.getElem_cons_succ]
              rw [if_pos (by rfl)]; refine wp_append_pairs (.tmp 38) (.tmp 40) 24 rfl W0.heap.size 52 Try.underlying24 info_chord v2 (.slice (some ⟨(W0.heap.size + 1), 0, none⟩) 1 1) ([] ++ xs.take k) [(c, d)] rfl rfl hI2 (Pairs.src hC2) (by simp; omega) hHeld.1.size ?_; intro v3 w3 hI3 hg3 ho3
              refine hK.out _ _ (by (try dsimp only); exact keepS b0 b1 (Pairs.below hI2 hHeld.1 hHeld.1.size hg3)) (fun hHeld => ?_)
              clear hK K
              simp only [Act.put, List.setIfInBounds_toArray, List.set_cons_zero, List.set_cons_succ]
              refine wpAnyH_take (i := 8) (v := ?v66) rfl (by kernel_rfl) (by kernel_rfl) (by kernel_rfl) (fun _ _ _ h => h) (Or.inl ⟨by rfl, ?hy66⟩) (by assumption) ?rest66
              case hy66 => (intro w hSw; (try dsimp only at hSw); go_simp; (try with_reducible rfl))
              simp only [Act.put, List.getElem_toArray, List.getElem_cons_zero, List.getElem_cons_succ, List.setIfInBounds_toArray, List.set_cons_zero, List.set_cons_succ]
              refine wpAnyH_done (by kernel_rfl) ?_ _
              have HS3 := Lib.hid (fun c' => (HS2.out c').later hHeld.1)
              have HT3 := Lib.hid (fun c' e => (HT2.out c' e).later hHeld.1)
              have HU3 := Lib.hid (fun c' => (HU2.out c').later hHeld.1)
              have HN := Lib.hid hI3
              have HB := hHeld.1
              have hz3 := HB.size
              clear hHeld
              go_wp2_with (first | (at_builtin; refine wpList_append_pairs rfl _ _ 24 rfl W0.heap.size 52 Try.underlying24 info_chord v3 _ _ _ rfl rfl HN.out (HS3.out _) (by simp; omega) hz3 ?_; intro v4 w4 hI4 hg4 _; have H4 := Lib.hid hI4; have HB4 := Pairs.below HN.out HB hz3 hg4; clear hI4 hg4) | (at_builtin; refine wpList_append_pairs rfl _ _ 24 rfl W0.heap.size 52 Try.underlying24 info_chord v3 _ _ _ rfl rfl HN.out (HT3.out _ (by first | assumption | rfl)) (by simp; omega) hz3 ?_; intro v4 w4 hI4 hg4 _; have H4 := Lib.hid hI4; have HB4 := Pairs.below HN.out HB hz3 hg4; clear hI4 hg4) | (at_builtin; refine wpList_append_pairs rfl _ _ 24 rfl W0.heap.size 52 Try.underlying24 info_chord v3 _ _ _ rfl rfl HN.out (HS3.out _) (by simp; omega) hz3 ?_; intro v4 w4 hI4 hg4 _; have H4 := Lib.hid hI4; have HB4 := Pairs.below HN.out HB hz3 hg4; clear hI4 hg4) | (at_builtin; refine wpList_append_pairs rfl _ _ 24 rfl W0.heap.size 52 Try.underlying24 info_chord v3 _ _ _ rfl rfl HN.out (HU3.out _) (by simp; omega) hz3 ?_; intro v4 w4 hI4 hg4 _; have H4 := Lib.hid hI4; have HB4 := Pairs.below HN.out HB hz3 hg4; clear hI4 hg4))
              all_goals
                go_ret
                exact ⟨_, rfl, ⟨by first | exact H4.out.mono hWz | (have hh := H4.out.mono hWz; rw [List.nil_append, List.append_assoc, List.singleton_append] at hh; exact hh), fun b hb => (H4.out.own b hb).2⟩, hW.trans (HB4.mono hWz)⟩
          · skip
            simp only [List.getElem_toArray, List.getElem_cons_zero, List.getElem_cons_succ]
            go_simp
            refine hK.out _ _ (by (try dsimp only); exact keepS b0 b1 (by go_grown)) (fun hHeld => ?_)
            clear hK K
            have hC := Pairs.boxed W0.drew W0.heap.size 52 [(c, d)] (by simp) (by simp)
            refine wpAnyH_ready (rs := [0]) (by kernel_rfl) (by simp) ?_
            refine AllReadyH.cons rfl (fun K hK => ?_) AllReadyH.nil
            simp only [List.getElem_toArray, List.getElem_cons_zero]
            go_simp
            refine hK.out _ _ (by (try dsimp only); exact keepS b0 b1 (by go_grown)) (fun hHeld => ?_)
            clear hK K
            have hI0' := Pairs.boxedAt (W0.drew.alloc (.cells ((flatP [(c, d)]).map (Value.int .i64)).toArray 52)) W0.heap.size 52 [] (W0.heap.size + 1) (by simp) (by omega) (by simp)
            have hC1 := hC.later (w' := (W0.drew.alloc (.cells ((flatP [(c, d)]).map (Value.int .i64)).toArray 52)).alloc (.cells #[] 52)) ((Below.refl _ _).alloc (Nat.le_refl _) _)
            refine wpAnyH_ready (rs := [4]) (by kernel_rfl) (by simp) ?_
            refine AllReadyH.cons rfl (fun K hK => ?_) AllReadyH.nil
            simp only [List.getElem_toArray, List.getElem_cons_zero, List.getElem_cons_succ]
            rw [if_pos (by rfl)]; refine wp_append_pairs (.tmp 34) (.tmp 37) 24 rfl W0.heap.size 52 Try.underlying24 info_chord (.slice (some ⟨(W0.heap.size + 1), 0, none⟩) 0 0) (.slice (some ⟨g, 0, none⟩) k cap) [] (xs.take k) rfl rfl hI0' (HS1.out.later hHeld.1) (by simp; omega) hHeld.1.size ?_; intro v2 w2 hI2 hg2 ho2
            refine hK.out _ _ (by (try dsimp only); exact keepS b0 b1 (Pairs.below hI0' hHeld.1 hHeld.1.size hg2)) (fun hHeld => ?_)
            clear hK K
            simp only [Act.put, List.setIfInBounds_toArray, List.set_cons_zero, List.set_cons_succ]
            have hC2 := Pairs.keptBut hC1 hg2 (.inr (by simp [Value.ownBlock]))
            refine wpAnyH_ready (rs := [7]) (by kernel_rfl) (by simp) ?_
            refine AllReadyH.cons rfl (fun K hK => ?_) AllReadyH.nil
            simp only [List.getElem_toArray, List.getElem_cons_zero, List.getElem_cons_succ]
            rw [if_pos (by rfl)]; refine wp_append_pairs (.tmp 38) (.tmp 40) 24 rfl W0.heap.size 52 Try.underlying24 info_chord v2 (.slice (some ⟨W0.heap.size, 0, none⟩) 1 1) ([] ++ xs.take k) [(c, d)] rfl rfl hI2 (Pairs.src hC2) (by simp; omega) hHeld.1.size ?_; intro v3 w3 hI3 hg3 ho3
            refine hK.out _ _ (by (try dsimp only); exact keepS b0 b1 (Pairs.below hI2 hHeld.1 hHeld.1.size hg3)) (fun hHeld => ?_)
            clear hK K
            simp only [Act.put, List.setIfInBounds_toArray, List.set_cons_zero, List.set_cons_succ]
            refine wpAnyH_take (i := 8) (v := ?v67) rfl (by kernel_rfl) (by kernel_rfl) (by kernel_rfl) (fun _ _ _ h => h) (Or.inl ⟨by rfl, ?hy67⟩) (by assumption) ?rest67
            case hy67 => (intro w hSw; (try dsimp only at hSw); go_simp; (try with_reducible rfl))
            simp only [Act.put, List.getElem_toArray, List.getElem_cons_zero, List.getElem_cons_succ, List.setIfInBounds_toArray, List.set_cons_zero, List.set_cons_succ]
            refine wpAnyH_done (by kernel_rfl) ?_ _
            have HS3 := Lib.hid (fun c' => (HS2.out c').later hHeld.1)
            have HT3 := Lib.hid (fun c' e => (HT2.out c' e).later hHeld.1)
            have HU3 := Lib.hid (fun c' => (HU2.out c').later hHeld.1)
            have HN := Lib.hid hI3
            have HB := hHeld.1
            have hz3 := HB.size
            clear hHeld
            go_wp2_with (first | (at_builtin; refine wpList_append_pairs rfl _ _ 24 rfl W0.heap.size 52 Try.underlying24 info_chord v3 _ _ _ rfl rfl HN.out (HS3.out _) (by simp; omega) hz3 ?_; intro v4 w4 hI4 hg4 _; have H4 := Lib.hid hI4; have HB4 := Pairs.below HN.out HB hz3 hg4; clear hI4 hg4) | (at_builtin; refine wpList_append_pairs rfl _ _ 24 rfl W0.heap.size 52 Try.underlying24 info_chord v3 _ _ _ rfl rfl HN.out (HT3.out _ (by first | assumption | rfl)) (by simp; omega) hz3 ?_; intro v4 w4 hI4 hg4 _; have H4 := Lib.hid hI4; have HB4 := Pairs.below HN.out HB hz3 hg4; clear hI4 hg4) | (at_builtin; refine wpList_append_pairs rfl _ _ 24 rfl W0.heap.size 52 Try.underlying24 info_chord v3 _ _ _ rfl rfl HN.out (HS3.out _) (by simp; omega) hz3 ?_; intro v4 w4 hI4 hg4 _; have H4 := Lib.hid hI4; have HB4 := Pairs.below HN.out HB hz3 hg4; clear hI4 hg4) | (at_builtin; refine wpList_append_pairs rfl _ _ 24 rfl W0.heap.size 52 Try.underlying24 info_chord v3 _ _ _ rfl rfl HN.out (HU3.out _) (by simp; omega) hz3 ?_; intro v4 w4 hI4 hg4 _; have H4 := Lib.hid hI4; have HB4 := Pairs.below HN.out HB hz3 hg4; clear hI4 hg4))
            all_goals
              go_ret
              exact ⟨_, rfl, ⟨by first | exact H4.out.mono hWz | (have hh := H4.out.mono hWz; rw [List.nil_append, List.append_assoc, List.singleton_append] at hh; exact hh), fun b hb => (H4.out.own b hb).2⟩, hW.trans (HB4.mono hWz)⟩
      · have hLs := HL.out k (by omega)
        rw [hxy] at hLs
        have HLS := Lib.hid hLs
        clear hLs hxy
        go_wp2
        go_region_held3 (fun w' => w'.cell? ⟨g, k * 2, none⟩ = some (.int .i64 x) ∧ w'.cell? ⟨g, k * 2 + 1, none⟩ = some (.int .i64 y) ∧ w'.cell? ⟨w.heap.size, 0, none⟩ = some (.int .i64 c) ∧ w'.cell? ⟨w.heap.size, 1, none⟩ = some (.int .i64 d)) (go_keep)
          (first | (go_at_call 97; refine (srLess_any _ _ _ _ _).mono ?_; rintro e w1 ⟨rfl, hb⟩; rw [HLS.out]; have d1 := cellB hb cx; have d2 := cellB hb cy; have d3 := cellB hb p1; have d4 := cellB hb q1; (have hB2 : Below (w.heap.size + 1) (w.alloc (.cells #[.int .i64 c, .int .i64 d] 52)) w1 := by (refine Below.trans ?_ (hb.mono (by first | exact hz | (simp; omega))); go_grown))))
        go_wp2
        go_roundw
        case rel => exact ⟨k + 1, by omega, by go_num, hB2⟩
        case measure => simp [intOf]; omega
    · have hkm2 : k = m := by omega
      have hnl : decide (k < xs.length) = false := by simp; omega
      have hkc : (k : Int) ≤ (cap : Int) := by omega
      have hkl2 : (k : Int) ≤ (xs.length : Int) := by omega
      have hlc2 : (xs.length : Int) ≤ (cap : Int) := by omega
      subst hkm2
      go_wp2
      refine wp_region_held_drew (S := fun w' => Below wr.heap.size wr w') (by kernel_rfl) (by (try dsimp only); go_grown) (fun hHeld => ?_)
      refine wpAnyH_take (i := 0) (v := ?v68) rfl (by kernel_rfl) (by kernel_rfl) (by kernel_rfl) (fun _ _ _ h => h) (Or.inl ⟨by rfl, ?hy68⟩) (by assumption) ?rest68
      case hy68 => (intro w hSw; (try dsimp only at hSw); go_simp; (try with_reducible rfl))
      simp only [Act.put, List.getElem_toArray, List.getElem_cons_zero, List.setIfInBounds_toArray, List.set_cons_zero, List.set_cons_succ]
      refine wpAnyH_take (i := 1) (v := ?v69) rfl (by kernel_rfl) (by kernel_rfl) (by kernel_rfl) (fun _ _ _ h => h) (Or.inl ⟨by rfl, ?hy69⟩) (by assumption) ?rest69
      case hy69 => (intro w hSw; (try dsimp only at hSw); go_simp; (try with_reducible rfl))
      simp only [Act.put, List.getElem_toArray, List.getElem_cons_zero, List.getElem_cons_succ, List.setIfInBounds_toArray, List.set_cons_zero, List.set_cons_succ]
      refine wpAnyH_take (i := 2) (v := ?v70) rfl (by kernel_rfl) (by kernel_rfl) (by kernel_rfl) (fun _ _ _ h => h) (Or.inl ⟨by rfl, ?hy70⟩) (by assumption) ?rest70
      case hy70 => (intro w hSw; (try dsimp only at hSw); go_simp; (try with_reducible rfl))
      simp only [Act.put, List.getElem_toArray, List.getElem_cons_zero, List.getElem_cons_succ, List.setIfInBounds_toArray, List.set_cons_zero, List.set_cons_succ]
      refine wpAnyH_take (i := 3) (v := ?v71) rfl (by kernel_rfl) (by kernel_rfl) (by kernel_rfl) (fun _ _ _ h => h) (Or.inl ⟨by rfl, ?hy71⟩) (by assumption) ?rest71
      case hy71 => (intro w hSw; (try dsimp only at hSw); go_simp; (try with_reducible rfl))
      simp only [Act.put, List.getElem_toArray, List.getElem_cons_zero, List.getElem_cons_succ, List.setIfInBounds_toArray, List.set_cons_zero, List.set_cons_succ]
      refine wpAnyH_take (i := 4) (v := ?v72) rfl (by kernel_rfl) (by kernel_rfl) (by kernel_rfl) (fun _ _ _ h => h) (Or.inl ⟨by rfl, ?hy72⟩) (by assumption) ?rest72
      case hy72 => (intro w hSw; (try dsimp only at hSw); go_simp; (try with_reducible rfl))
      simp only [Act.put, List.getElem_toArray, List.getElem_cons_zero, List.getElem_cons_succ, List.setIfInBounds_toArray, List.set_cons_zero, List.set_cons_succ]
      refine wpAnyH_take (i := 5) (v := undef) rfl (by kernel_rfl) (by kernel_rfl) (by kernel_rfl) (fun _ _ _ h => h) (Or.inr ⟨by rfl, rfl⟩) (by assumption) ?_
      simp only [Act.put, List.getElem_toArray, List.getElem_cons_zero, List.getElem_cons_succ, List.setIfInBounds_toArray, List.set_cons_zero, List.set_cons_succ]
      refine wpAnyH_take (i := 6) (v := undef) rfl (by kernel_rfl) (by kernel_rfl) (by kernel_rfl) (fun _ _ _ h => h) (Or.inr ⟨by rfl, rfl⟩) (by assumption) ?_
      simp only [Act.put, List.getElem_toArray, List.getElem_cons_zero, List.getElem_cons_succ, List.setIfInBounds_toArray, List.set_cons_zero, List.set_cons_succ]
      refine wpAnyH_take (i := 7) (v := undef) rfl (by kernel_rfl) (by kernel_rfl) (by kernel_rfl) (fun _ _ _ h => h) (Or.inr ⟨by rfl, rfl⟩) (by assumption) ?_
      simp only [Act.put, List.getElem_toArray, List.getElem_cons_zero, List.getElem_cons_succ, List.setIfInBounds_toArray, List.set_cons_zero, List.set_cons_succ]
      refine wpAnyH_take (i := 8) (v := undef) rfl (by kernel_rfl) (by kernel_rfl) (by kernel_rfl) (fun _ _ _ h => h) (Or.inr ⟨by rfl, rfl⟩) (by assumption) ?_
      simp only [Act.put, List.getElem_toArray, List.getElem_cons_zero, List.getElem_cons_succ, List.setIfInBounds_toArray, List.set_cons_zero, List.set_cons_succ]
      refine wpAnyH_take (i := 9) (v := undef) rfl (by kernel_rfl) (by kernel_rfl) (by kernel_rfl) (fun _ _ _ h => h) (Or.inr ⟨by rfl, rfl⟩) (by assumption) ?_
      simp only [Act.put, List.getElem_toArray, List.getElem_cons_zero, List.getElem_cons_succ, List.setIfInBounds_toArray, List.set_cons_zero, List.set_cons_succ]
      refine wpAnyH_take (i := 10) (v := undef) rfl (by kernel_rfl) (by kernel_rfl) (by kernel_rfl) (fun _ _ _ h => h) (Or.inr ⟨by rfl, rfl⟩) (by assumption) ?_
      simp only [Act.put, List.getElem_toArray, List.getElem_cons_zero, List.getElem_cons_succ, List.setIfInBounds_toArray, List.set_cons_zero, List.set_cons_succ]
      refine wpAnyH_take (i := 11) (v := ?v73) rfl (by kernel_rfl) (by kernel_rfl) (by kernel_rfl) (fun _ _ _ h => h) (Or.inl ⟨by rfl, ?hy73⟩) (by assumption) ?rest73
      case hy73 => (intro w hSw; (try dsimp only at hSw); go_simp; (try with_reducible rfl))
      simp only [Act.put, List.getElem_toArray, List.getElem_cons_zero, List.getElem_cons_succ, List.setIfInBounds_toArray, List.set_cons_zero, List.set_cons_succ]
      refine wpAnyH_done (by kernel_rfl) ?_ _
      go_wp2
      refine wp_region_held_drew (S := fun w' => Below wr.heap.size wr w') (by kernel_rfl) (by (try dsimp only); go_grown) (fun hHeld => ?_)
      refine wpAnyH_take (i := 0) (v := ?v74) rfl (by kernel_rfl) (by kernel_rfl) (by kernel_rfl) (fun _ _ _ h => h) (Or.inl ⟨by rfl, ?hy74⟩) (by assumption) ?rest74
      case hy74 => (intro w hSw; (try dsimp only at hSw); go_simp; (try with_reducible rfl))
      simp only [Act.put, List.getElem_toArray, List.getElem_cons_zero, List.setIfInBounds_toArray, List.set_cons_zero, List.set_cons_succ]
      refine wpAnyH_take (i := 1) (v := ?v75) rfl (by kernel_rfl) (by kernel_rfl) (by kernel_rfl) (fun _ _ _ h => h) (Or.inl ⟨by rfl, ?hy75⟩) (by assumption) ?rest75
      case hy75 => (intro w hSw; (try dsimp only at hSw); go_simp; (try with_reducible rfl))
      simp only [Act.put, List.getElem_toArray, List.getElem_cons_zero, List.getElem_cons_succ, List.setIfInBounds_toArray, List.set_cons_zero, List.set_cons_succ]
      refine wpAnyH_take (i := 2) (v := ?v76) rfl (by kernel_rfl) (by kernel_rfl) (by kernel_rfl) (fun _ _ _ h => h) (Or.inl ⟨by rfl, ?hy76⟩) (by assumption) ?rest76
      case hy76 => (intro w hSw; (try dsimp only at hSw); go_simp; (try with_reducible rfl))
      simp only [Act.put, List.getElem_toArray, List.getElem_cons_zero, List.getElem_cons_succ, List.setIfInBounds_toArray, List.set_cons_zero, List.set_cons_succ]
      refine wpAnyH_take (i := 3) (v := ?v77) rfl (by kernel_rfl) (by kernel_rfl) (by kernel_rfl) (fun _ _ _ h => h) (Or.inl ⟨by rfl, ?hy77⟩) (by assumption) ?rest77
      case hy77 => (intro w hSw; (try dsimp only at hSw); go_simp; (try with_reducible rfl))
      simp only [Act.put, List.getElem_toArray, List.getElem_cons_zero, List.getElem_cons_succ, List.setIfInBounds_toArray, List.set_cons_zero, List.set_cons_succ]
      refine wpAnyH_take (i := 4) (v := ?v78) rfl (by kernel_rfl) (by kernel_rfl) (by kernel_rfl) (fun _ _ _ h => h) (Or.inl ⟨by rfl, ?hy78⟩) (by assumption) ?rest78
      case hy78 => (intro w hSw; (try dsimp only at hSw); go_simp; (try with_reducible rfl))
      simp only [Act.put, List.getElem_toArray, List.getElem_cons_zero, List.getElem_cons_succ, List.setIfInBounds_toArray, List.set_cons_zero, List.set_cons_succ]
      refine wpAnyH_take (i := 5) (v := undef) rfl (by kernel_rfl) (by kernel_rfl) (by kernel_rfl) (fun _ _ _ h => h) (Or.inr ⟨by rfl, rfl⟩) (by assumption) ?_
      simp only [Act.put, List.getElem_toArray, List.getElem_cons_zero, List.getElem_cons_succ, List.setIfInBounds_toArray, List.set_cons_zero, List.set_cons_succ]
      refine wpAnyH_take (i := 6) (v := undef) rfl (by kernel_rfl) (by kernel_rfl) (by kernel_rfl) (fun _ _ _ h => h) (Or.inr ⟨by rfl, rfl⟩) (by assumption) ?_
      simp only [Act.put, List.getElem_toArray, List.getElem_cons_zero, List.getElem_cons_succ, List.setIfInBounds_toArray, List.set_cons_zero, List.set_cons_succ]
      refine wpAnyH_take (i := 7) (v := undef) rfl (by kernel_rfl) (by kernel_rfl) (by kernel_rfl) (fun _ _ _ h => h) (Or.inr ⟨by rfl, rfl⟩) (by assumption) ?_
      simp only [Act.put, List.getElem_toArray, List.getElem_cons_zero, List.getElem_cons_succ, List.setIfInBounds_toArray, List.set_cons_zero, List.set_cons_succ]
      refine wpAnyH_take (i := 8) (v := undef) rfl (by kernel_rfl) (by kernel_rfl) (by kernel_rfl) (fun _ _ _ h => h) (Or.inr ⟨by rfl, rfl⟩) (by assumption) ?_
      simp only [Act.put, List.getElem_toArray, List.getElem_cons_zero, List.getElem_cons_succ, List.setIfInBounds_toArray, List.set_cons_zero, List.set_cons_succ]
      refine wpAnyH_take (i := 9) (v := undef) rfl (by kernel_rfl) (by kernel_rfl) (by kernel_rfl) (fun _ _ _ h => h) (Or.inr ⟨by rfl, rfl⟩) (by assumption) ?_
      simp only [Act.put, List.getElem_toArray, List.getElem_cons_zero, List.getElem_cons_succ, List.setIfInBounds_toArray, List.set_cons_zero, List.set_cons_succ]
      refine wpAnyH_take (i := 10) (v := undef) rfl (by kernel_rfl) (by kernel_rfl) (by kernel_rfl) (fun _ _ _ h => h) (Or.inr ⟨by rfl, rfl⟩) (by assumption) ?_
      simp only [Act.put, List.getElem_toArray, List.getElem_cons_zero, List.getElem_cons_succ, List.setIfInBounds_toArray, List.set_cons_zero, List.set_cons_succ]
      refine wpAnyH_take (i := 11) (v := ?v79) rfl (by kernel_rfl) (by kernel_rfl) (by kernel_rfl) (fun _ _ _ h => h) (Or.inl ⟨by rfl, ?hy79⟩) (by assumption) ?rest79
      case hy79 => (intro w hSw; (try dsimp only at hSw); go_simp; (try with_reducible rfl))
      simp only [Act.put, List.getElem_toArray, List.getElem_cons_zero, List.getElem_cons_succ, List.setIfInBounds_toArray, List.set_cons_zero, List.set_cons_succ]
      refine wpAnyH_done (by kernel_rfl) ?_ _
      go_wp2
      obtain ⟨W0, hW0⟩ : ∃ W0, W0 = wr.drew.drew := ⟨_, rfl⟩
      rw [← hW0]
      have b0 : W0.cell? ⟨w.heap.size, 0, none⟩ = some (.int .i64 c) := by rw [hW0]; exact p1
      have b1 : W0.cell? ⟨w.heap.size, 1, none⟩ = some (.int .i64 d) := by rw [hW0]; exact q1
      have hW : Below w.heap.size w W0 := by rw [hW0]; exact ⟨hBw.os, hBw.tape, hBw.output, hBw.size, hBw.block⟩
      have hWz := hW.size
      have hbz : w.heap.size < W0.heap.size := by rw [hW0]; simp; omega
      have HS1 := Lib.hid (src_take (xs := xs) (k := k) (HS.out.later hW) (by omega))
      have HS2 := Lib.hid (fun c' => src_drop (xs := xs) (k := k) (c' := c') (HS.out.later hW) (by omega))
      have HU2 := Lib.hid (fun c' => src_drop_if (xs := xs) (k := k) (c' := c') (HS.out.later hW) (by omega) hlc)
      have HT2 := Lib.hid (fun (c' : Nat) (e : cap = k) => show SrcP W0 (.slice (some ⟨g, 0, none⟩) (xs.length - k) c') (xs.drop k) by have := src_drop_if (xs := xs) (k := k) (c' := c') (HS.out.later hW) (by omega) hlc; rwa [if_pos e] at this)
      clear hW0
      refine wp_region_held_drew (S := fun w' => Below W0.heap.size W0 w' ∧ w'.cell? ⟨w.heap.size, 0, none⟩ = some (.int .i64 c) ∧ w'.cell? ⟨w.heap.size, 1, none⟩ = some (.int .i64 d)) (by kernel_rfl) (by (try dsimp only); exact keepS b0 b1 (by go_grown)) (fun hHeld => ?_)
      refine wpAnyH_take (i := 1) (v := ?v80) rfl (by kernel_rfl) (by kernel_rfl) (by kernel_rfl) (fun _ _ _ h => h) (Or.inl ⟨by rfl, ?hy80⟩) (by assumption) ?rest80
      case hy80 => (intro w hSw; (try dsimp only at hSw); go_simp; (try with_reducible rfl))
      simp only [Act.put, List.getElem_toArray, List.getElem_cons_zero, List.getElem_cons_succ, List.setIfInBounds_toArray, List.set_cons_zero, List.set_cons_succ]
      refine wpAnyH_take (i := 2) (v := ?v81) rfl (by kernel_rfl) (by kernel_rfl) (by kernel_rfl) (fun _ _ _ h => h) (Or.inl ⟨by rfl, ?hy81⟩) (by assumption) ?rest81
      case hy81 => (intro w hSw; (try dsimp only at hSw); go_simp; (try with_reducible rfl))
      simp only [Act.put, List.getElem_toArray, List.getElem_cons_zero, List.getElem_cons_succ, List.setIfInBounds_toArray, List.set_cons_zero, List.set_cons_succ]
      refine wpAnyH_take (i := 3) (v := ?v82) rfl (by kernel_rfl) (by kernel_rfl) (by kernel_rfl) (fun _ _ _ h => h) (Or.inl ⟨by rfl, ?hy82⟩) (by assumption) ?rest82
      case hy82 => (intro w hSw; (try dsimp only at hSw); go_simp; (try with_reducible rfl))
      simp only [Act.put, List.getElem_toArray, List.getElem_cons_zero, List.getElem_cons_succ, List.setIfInBounds_toArray, List.set_cons_zero, List.set_cons_succ]
      refine wpAnyH_take (i := 5) (v := ?v83) rfl (by kernel_rfl) (by kernel_rfl) (by kernel_rfl) (fun _ _ _ h => h) (Or.inl ⟨by rfl, ?hy83⟩) (by assumption) ?rest83
      case hy83 => (intro w hSw; (try dsimp only at hSw); go_simp; (try with_reducible rfl))
      simp only [Act.put, List.getElem_toArray, List.getElem_cons_zero, List.getElem_cons_succ, List.setIfInBounds_toArray, List.set_cons_zero, List.set_cons_succ]
      refine wpAnyH_ready (rs := [0, 6]) (by kernel_rfl) (by simp) ?_
      refine AllReadyH.cons rfl (fun K hK => ?_) (AllReadyH.cons rfl (fun K hK => ?_) AllReadyH.nil)
      · skip
        simp only [List.getElem_toArray, List.getElem_cons_zero]
        go_simp
        refine hK.out _ _ (by (try dsimp only); exact keepS b0 b1 (by go_grown)) (fun hHeld => ?_)
        clear hK K
        have hI0 := Lib.hid (Pairs.boxed W0.drew W0.heap.size 52 [] (Nat.le_refl _) (by simp))
        refine wpAnyH_ready (rs := [4, 6]) (by kernel_rfl) (by simp) ?_
        refine AllReadyH.cons rfl (fun K hK => ?_) (AllReadyH.cons rfl (fun K hK => ?_) AllReadyH.nil)
        · skip
          simp only [List.getElem_toArray, List.getElem_cons_zero, List.getElem_cons_succ]
          rw [if_pos (by rfl)]; refine wp_append_pairs (.tmp 34) (.tmp 37) 24 rfl W0.heap.size 52 Try.underlying24 info_chord (.slice (some ⟨W0.heap.size, 0, none⟩) 0 0) (.slice (some ⟨g, 0, none⟩) k cap) [] (xs.take k) rfl rfl hI0.out (HS1.out.later hHeld.1) (by simp; omega) hHeld.1.size ?_; intro v2 w2 hI2 hg2 ho2
          refine hK.out _ _ (by (try dsimp only); exact keepS b0 b1 (Pairs.below hI0.out hHeld.1 hHeld.1.size hg2)) (fun hHeld => ?_)
          clear hK K
          simp only [Act.put, List.setIfInBounds_toArray, List.set_cons_zero, List.set_cons_succ]
          have hb2' := hHeld.1
          refine wpAnyH_ready (rs := [6]) (by kernel_rfl) (by simp) ?_
          refine AllReadyH.cons rfl (fun K hK => ?_) AllReadyH.nil
          simp only [List.getElem_toArray, List.getElem_cons_zero, List.getElem_cons_succ]
          go_simp
          refine hK.out _ _ (by (try dsimp only); exact keepS b0 b1 (hb2'.alloc hb2'.size _)) (fun hHeld => ?_)
          clear hK K
          have hC := Pairs.boxed w2 W0.heap.size 52 [(c, d)] (by have := hb2'.size; omega) (by simp)
          refine wpAnyH_ready (rs := [7]) (by kernel_rfl) (by simp) ?_
          refine AllReadyH.cons rfl (fun K hK => ?_) AllReadyH.nil
          simp only [List.getElem_toArray, List.getElem_cons_zero, List.getElem_cons_succ]
          rw [if_pos (by rfl)]; refine wp_append_pairs (.tmp 38) (.tmp 40) 24 rfl W0.heap.size 52 Try.underlying24 info_chord v2 (.slice (some ⟨w2.heap.size, 0, none⟩) 1 1) ([] ++ xs.take k) [(c, d)] rfl rfl (hI2.later ((Below.refl _ _).alloc (Nat.le_refl _) _)) (Pairs.src hC) (by simp; omega) hHeld.1.size ?_; intro v3 w3 hI3 hg3 ho3
          refine hK.out _ _ (by (try dsimp only); exact keepS b0 b1 (Pairs.below (hI2.later ((Below.refl _ _).alloc (Nat.le_refl _) _)) hHeld.1 hHeld.1.size hg3)) (fun hHeld => ?_)
          clear hK K
          simp only [Act.put, List.setIfInBounds_toArray, List.set_cons_zero, List.set_cons_succ]
          refine wpAnyH_take (i := 8) (v := ?v84) rfl (by kernel_rfl) (by kernel_rfl) (by kernel_rfl) (fun _ _ _ h => h) (Or.inl ⟨by rfl, ?hy84⟩) (by assumption) ?rest84
          case hy84 => (intro w hSw; (try dsimp only at hSw); go_simp; (try with_reducible rfl))
          simp only [Act.put, List.getElem_toArray, List.getElem_cons_zero, List.getElem_cons_succ, List.setIfInBounds_toArray, List.set_cons_zero, List.set_cons_succ]
          refine wpAnyH_done (by kernel_rfl) ?_ _
          have HS3 := Lib.hid (fun c' => (HS2.out c').later hHeld.1)
          have HT3 := Lib.hid (fun c' e => (HT2.out c' e).later hHeld.1)
          have HU3 := Lib.hid (fun c' => (HU2.out c').later hHeld.1)
          have HN := Lib.hid hI3
          have HB := hHeld.1
          have hz3 := HB.size
          clear hHeld
          go_wp2_with (first | (at_builtin; refine wpList_append_pairs rfl _ _ 24 rfl W0.heap.size 52 Try.underlying24 info_chord v3 _ _ _ rfl rfl HN.out (HS3.out _) (by simp; omega) hz3 ?_; intro v4 w4 hI4 hg4 _; have H4 := Lib.hid hI4; have HB4 := Pairs.below HN.out HB hz3 hg4; clear hI4 hg4) | (at_builtin; refine wpList_append_pairs rfl _ _ 24 rfl W0.heap.size 52 Try.underlying24 info_chord v3 _ _ _ rfl rfl HN.out (HT3.out _ (by first | assumption | rfl)) (by simp; omega) hz3 ?_; intro v4 w4 hI4 hg4 _; have H4 := Lib.hid hI4; have HB4 := Pairs.below HN.out HB hz3 hg4; clear hI4 hg4) | (at_builtin; refine wpList_append_pairs rfl _ _ 24 rfl W0.heap.size 52 Try.underlying24 info_chord v3 _ _ _ rfl rfl HN.out (HS3.out _) (by simp; omega) hz3 ?_; intro v4 w4 hI4 hg4 _; have H4 := Lib.hid hI4; have HB4 := Pairs.below HN.out HB hz3 hg4; clear hI4 hg4) | (at_builtin; refine wpList_append_pairs rfl _ _ 24 rfl W0.heap.size 52 Try.underlying24 info_chord v3 _ _ _ rfl rfl HN.out (HU3.out _) (by simp; omega) hz3 ?_; intro v4 w4 hI4 hg4 _; have H4 := Lib.hid hI4; have HB4 := Pairs.below HN.out HB hz3 hg4; clear hI4 hg4))
          all_goals
            go_ret
            exact ⟨_, rfl, ⟨by first | exact H4.out.mono hWz | (have hh := H4.out.mono hWz; rw [List.nil_append, List.append_assoc, List.singleton_append] at hh; exact hh), fun b hb => (H4.out.own b hb).2⟩, hW.trans (HB4.mono hWz)⟩
        · skip
          simp only [List.getElem_toArray, List.getElem_cons_zero, List.getElem_cons_succ]
          go_simp
          refine hK.out _ _ (by (try dsimp only); exact keepS b0 b1 (by go_grown)) (fun hHeld => ?_)
          clear hK K
          have hC := Pairs.boxedAt (W0.drew.alloc (.cells #[] 52)) W0.heap.size 52 [(c, d)] (W0.heap.size + 1) (by simp) (by omega) (by simp)
          have hI0' := hI0.out.later (w' := (W0.drew.alloc (.cells #[] 52)).alloc (.cells ((flatP [(c, d)]).map (Value.int .i64)).toArray 52)) ((Below.refl _ _).alloc (Nat.le_refl _) _)
          refine wpAnyH_ready (rs := [4]) (by kernel_rfl) (by simp) ?_
          refine AllReadyH.cons rfl (fun K hK => ?_) AllReadyH.nil
          simp only [List.getElem_toArray, List.getElem_cons_zero, List.getElem_cons_succ]
          rw [if_pos (by rfl)]; refine wp_append_pairs (.tmp 34) (.tmp 37) 24 rfl W0.heap.size 52 Try.underlying24 info_chord (.slice (some ⟨W0.heap.size, 0, none⟩) 0 0) (.slice (some ⟨g, 0, none⟩) k cap) [] (xs.take k) rfl rfl hI0' (HS1.out.later hHeld.1) (by simp; omega) hHeld.1.size ?_; intro v2 w2 hI2 hg2 ho2
          refine hK.out _ _ (by (try dsimp only); exact keepS b0 b1 (Pairs.below hI0' hHeld.1 hHeld.1.size hg2)) (fun hHeld => ?_)
          clear hK K
          simp only [Act.put, List.setIfInBounds_toArray, List.set_cons_zero, List.set_cons_succ]
          have hC2 := Pairs.keptBut hC hg2 (.inr (by simp [Value.ownBlock]))
          refine wpAnyH_ready (rs := [7]) (by kernel_rfl) (by simp) ?_
          refine AllReadyH.cons rfl (fun K hK => ?_) AllReadyH.nil
          simp only [List.getElem_toArray, List.getElem_cons_zero, List.getElem_cons_succ]
          rw [if_pos (by rfl)]; refine wp_append_pairs (.tmp 38) (.tmp 40) 24 rfl W0.heap.size 52 Try.underlying24 info_chord v2 (.slice (some ⟨(W0.heap.size + 1), 0, none⟩) 1 1) ([] ++ xs.take k) [(c, d)] rfl rfl hI2 (Pairs.src hC2) (by simp; omega) hHeld.1.size ?_; intro v3 w3 hI3 hg3 ho3
          refine hK.out _ _ (by (try dsimp only); exact keepS b0 b1 (Pairs.below hI2 hHeld.1 hHeld.1.size hg3)) (fun hHeld => ?_)
          clear hK K
          simp only [Act.put, List.setIfInBounds_toArray, List.set_cons_zero, List.set_cons_succ]
          refine wpAnyH_take (i := 8) (v := ?v85) rfl (by kernel_rfl) (by kernel_rfl) (by kernel_rfl) (fun _ _ _ h => h) (Or.inl ⟨by rfl, ?hy85⟩) (by assumption) ?rest85
          case hy85 => (intro w hSw; (try dsimp only at hSw); go_simp; (try with_reducible rfl))
          simp only [Act.put, List.getElem_toArray, List.getElem_cons_zero, List.getElem_cons_succ, List.setIfInBounds_toArray, List.set_cons_zero, List.set_cons_succ]
          refine wpAnyH_done (by kernel_rfl) ?_ _
          have HS3 := Lib.hid (fun c' => (HS2.out c').later hHeld.1)
          have HT3 := Lib.hid (fun c' e => (HT2.out c' e).later hHeld.1)
          have HU3 := Lib.hid (fun c' => (HU2.out c').later hHeld.1)
          have HN := Lib.hid hI3
          have HB := hHeld.1
          have hz3 := HB.size
          clear hHeld
          go_wp2_with (first | (at_builtin; refine wpList_append_pairs rfl _ _ 24 rfl W0.heap.size 52 Try.underlying24 info_chord v3 _ _ _ rfl rfl HN.out (HS3.out _) (by simp; omega) hz3 ?_; intro v4 w4 hI4 hg4 _; have H4 := Lib.hid hI4; have HB4 := Pairs.below HN.out HB hz3 hg4; clear hI4 hg4) | (at_builtin; refine wpList_append_pairs rfl _ _ 24 rfl W0.heap.size 52 Try.underlying24 info_chord v3 _ _ _ rfl rfl HN.out (HT3.out _ (by first | assumption | rfl)) (by simp; omega) hz3 ?_; intro v4 w4 hI4 hg4 _; have H4 := Lib.hid hI4; have HB4 := Pairs.below HN.out HB hz3 hg4; clear hI4 hg4) | (at_builtin; refine wpList_append_pairs rfl _ _ 24 rfl W0.heap.size 52 Try.underlying24 info_chord v3 _ _ _ rfl rfl HN.out (HS3.out _) (by simp; omega) hz3 ?_; intro v4 w4 hI4 hg4 _; have H4 := Lib.hid hI4; have HB4 := Pairs.below HN.out HB hz3 hg4; clear hI4 hg4) | (at_builtin; refine wpList_append_pairs rfl _ _ 24 rfl W0.heap.size 52 Try.underlying24 info_chord v3 _ _ _ rfl rfl HN.out (HU3.out _) (by simp; omega) hz3 ?_; intro v4 w4 hI4 hg4 _; have H4 := Lib.hid hI4; have HB4 := Pairs.below HN.out HB hz3 hg4; clear hI4 hg4))
          all_goals
            go_ret
            exact ⟨_, rfl, ⟨by first | exact H4.out.mono hWz | (have hh := H4.out.mono hWz; rw [List.nil_append, List.append_assoc, List.singleton_append] at hh; exact hh), fun b hb => (H4.out.own b hb).2⟩, hW.trans (HB4.mono hWz)⟩
      · skip
        simp only [List.getElem_toArray, List.getElem_cons_zero, List.getElem_cons_succ]
        go_simp
        refine hK.out _ _ (by (try dsimp only); exact keepS b0 b1 (by go_grown)) (fun hHeld => ?_)
        clear hK K
        have hC := Pairs.boxed W0.drew W0.heap.size 52 [(c, d)] (by simp) (by simp)
        refine wpAnyH_ready (rs := [0]) (by kernel_rfl) (by simp) ?_
        refine AllReadyH.cons rfl (fun K hK => ?_) AllReadyH.nil
        simp only [List.getElem_toArray, List.getElem_cons_zero]
        go_simp
        refine hK.out _ _ (by (try dsimp only); exact keepS b0 b1 (by go_grown)) (fun hHeld => ?_)
        clear hK K
        have hI0' := Pairs.boxedAt (W0.drew.alloc (.cells ((flatP [(c, d)]).map (Value.int .i64)).toArray 52)) W0.heap.size 52 [] (W0.heap.size + 1) (by simp) (by omega) (by simp)
        have hC1 := hC.later (w' := (W0.drew.alloc (.cells ((flatP [(c, d)]).map (Value.int .i64)).toArray 52)).alloc (.cells #[] 52)) ((Below.refl _ _).alloc (Nat.le_refl _) _)
        refine wpAnyH_ready (rs := [4]) (by kernel_rfl) (by simp) ?_
        refine AllReadyH.cons rfl (fun K hK => ?_) AllReadyH.nil
        simp only [List.getElem_toArray, List.getElem_cons_zero, List.getElem_cons_succ]
        rw [if_pos (by rfl)]; refine wp_append_pairs (.tmp 34) (.tmp 37) 24 rfl W0.heap.size 52 Try.underlying24 info_chord (.slice (some ⟨(W0.heap.size + 1), 0, none⟩) 0 0) (.slice (some ⟨g, 0, none⟩) k cap) [] (xs.take k) rfl rfl hI0' (HS1.out.later hHeld.1) (by simp; omega) hHeld.1.size ?_; intro v2 w2 hI2 hg2 ho2
        refine hK.out _ _ (by (try dsimp only); exact keepS b0 b1 (Pairs.below hI0' hHeld.1 hHeld.1.size hg2)) (fun hHeld => ?_)
        clear hK K
        simp only [Act.put, List.setIfInBounds_toArray, List.set_cons_zero, List.set_cons_succ]
        have hC2 := Pairs.keptBut hC1 hg2 (.inr (by simp [Value.ownBlock]))
        refine wpAnyH_ready (rs := [7]) (by kernel_rfl) (by simp) ?_
        refine AllReadyH.cons rfl (fun K hK => ?_) AllReadyH.nil
        simp only [List.getElem_toArray, List.getElem_cons_zero, List.getElem_cons_succ]
        rw [if_pos (by rfl)]; refine wp_append_pairs (.tmp 38) (.tmp 40) 24 rfl W0.heap.size 52 Try.underlying24 info_chord v2 (.slice (some ⟨W0.heap.size, 0, none⟩) 1 1) ([] ++ xs.take k) [(c, d)] rfl rfl hI2 (Pairs.src hC2) (by simp; omega) hHeld.1.size ?_; intro v3 w3 hI3 hg3 ho3
        refine hK.out _ _ (by (try dsimp only); exact keepS b0 b1 (Pairs.below hI2 hHeld.1 hHeld.1.size hg3)) (fun hHeld => ?_)
        clear hK K
        simp only [Act.put, List.setIfInBounds_toArray, List.set_cons_zero, List.set_cons_succ]
        refine wpAnyH_take (i := 8) (v := ?v86) rfl (by kernel_rfl) (by kernel_rfl) (by kernel_rfl) (fun _ _ _ h => h) (Or.inl ⟨by rfl, ?hy86⟩) (by assumption) ?rest86
        case hy86 => (intro w hSw; (try dsimp only at hSw); go_simp; (try with_reducible rfl))
        simp only [Act.put, List.getElem_toArray, List.getElem_cons_zero, List.getElem_cons_succ, List.setIfInBounds_toArray, List.set_cons_zero, List.set_cons_succ]
        refine wpAnyH_done (by kernel_rfl) ?_ _
        have HS3 := Lib.hid (fun c' => (HS2.out c').later hHeld.1)
        have HT3 := Lib.hid (fun c' e => (HT2.out c' e).later hHeld.1)
        have HU3 := Lib.hid (fun c' => (HU2.out c').later hHeld.1)
        have HN := Lib.hid hI3
        have HB := hHeld.1
        have hz3 := HB.size
        clear hHeld
        go_wp2_with (first | (at_builtin; refine wpList_append_pairs rfl _ _ 24 rfl W0.heap.size 52 Try.underlying24 info_chord v3 _ _ _ rfl rfl HN.out (HS3.out _) (by simp; omega) hz3 ?_; intro v4 w4 hI4 hg4 _; have H4 := Lib.hid hI4; have HB4 := Pairs.below HN.out HB hz3 hg4; clear hI4 hg4) | (at_builtin; refine wpList_append_pairs rfl _ _ 24 rfl W0.heap.size 52 Try.underlying24 info_chord v3 _ _ _ rfl rfl HN.out (HT3.out _ (by first | assumption | rfl)) (by simp; omega) hz3 ?_; intro v4 w4 hI4 hg4 _; have H4 := Lib.hid hI4; have HB4 := Pairs.below HN.out HB hz3 hg4; clear hI4 hg4) | (at_builtin; refine wpList_append_pairs rfl _ _ 24 rfl W0.heap.size 52 Try.underlying24 info_chord v3 _ _ _ rfl rfl HN.out (HS3.out _) (by simp; omega) hz3 ?_; intro v4 w4 hI4 hg4 _; have H4 := Lib.hid hI4; have HB4 := Pairs.below HN.out HB hz3 hg4; clear hI4 hg4) | (at_builtin; refine wpList_append_pairs rfl _ _ 24 rfl W0.heap.size 52 Try.underlying24 info_chord v3 _ _ _ rfl rfl HN.out (HU3.out _) (by simp; omega) hz3 ?_; intro v4 w4 hI4 hg4 _; have H4 := Lib.hid hI4; have HB4 := Pairs.below HN.out HB hz3 hg4; clear hI4 hg4))
        all_goals
          go_ret
          exact ⟨_, rfl, ⟨by first | exact H4.out.mono hWz | (have hh := H4.out.mono hWz; rw [List.nil_append, List.append_assoc, List.singleton_append] at hh; exact hh), fun b hb => (H4.out.own b hb).2⟩, hW.trans (HB4.mono hWz)⟩
end Go.Proofs.Ytnldnjgnpdicnaa
