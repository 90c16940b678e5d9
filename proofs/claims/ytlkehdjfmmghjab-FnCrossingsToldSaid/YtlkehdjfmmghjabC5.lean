/- The model's chords in order: a chord that is not there is put into a list. -/
import Derived.Test.YtlkehdjfmmghjabC4
namespace Go.Proofs.Ytlkehdjfmmghjab
open Go.RowKit
set_option linter.unusedVariables false


set_option maxHeartbeats 2000000 in
theorem srPut_some (g cap : Nat) (xs : List (Int × Int)) (c d : Int) (B T : Nat) (w : World) (h : PairsIn 61 w B T (.slice (some ⟨g, 0, none⟩) xs.length cap) xs) (hT : T ≤ w.heap.size) (hn : xs.length ≤ 1000000) (hlc : xs.length ≤ cap) (hcm : cap ≤ maxLen)
    (hne : ¬ (headC (c, d) xs < xs.length ∧ xs.getD (headC (c, d) xs) (0, 0) = (c, d))) :
    Calls Try.prog 65 #[.slice (some ⟨g, 0, none⟩) xs.length cap, .agg #[.int .i64 c, .int .i64 d]] w fun e w' => ∃ v', e = .returned v' ∧ PairsIn 61 w' w.heap.size w'.heap.size v' (xs.take (headC (c, d) xs) ++ [(c, d)] ++ xs.drop (headC (c, d) xs)) ∧ Below w.heap.size w w' := by
  unfold maxLen at hcm
  have hg : g < T := h.2 g rfl
  have HS := Lib.hid h.1.src
  have hx1 := h.1.cell0
  have hy1 := h.1.cell1
  clear h
  have hb0 : Below w.heap.size w (w.alloc (.cells #[.int .i64 c, .int .i64 d] 61)) := (Below.refl _ _).alloc (Nat.le_refl _) _
  have X := Lib.hid (fun i (hi : i < xs.length) => cellB hb0 (hx1 i hi))
  have Y := Lib.hid (fun i (hi : i < xs.length) => cellB hb0 (hy1 i hi))
  have HL := Lib.hid (headC_less (c, d) xs)
  have HSt := Lib.hid (headC_stop (c, d) xs)
  have HNE := Lib.hid hne
  have hml := headC_le (c, d) xs
  obtain ⟨m, hm⟩ : ∃ m, m = headC (c, d) xs := ⟨_, rfl⟩
  rw [← hm] at HL HSt HNE hml ⊢
  clear hx1 hy1 hm hb0 hne
  have p0 : (w.alloc (.cells #[.int .i64 c, .int .i64 d] 61)).cell? ⟨w.heap.size, 0, none⟩ = some (.int .i64 c) := by go_simp
  have q0 : (w.alloc (.cells #[.int .i64 c, .int .i64 d] 61)).cell? ⟨w.heap.size, 1, none⟩ = some (.int .i64 d) := by go_simp
  have P0 := Lib.hid p0
  have Q0 := Lib.hid q0
  clear p0 q0
  go_enter Try.func65, Try.ntmps65
  go_wp2
  go_loopw [5] (fun i wr => ∃ k : Nat, k ≤ m ∧ i = .int .i64 k ∧ Below (w.heap.size + 1) (w.alloc (.cells #[.int .i64 c, .int .i64 d] 61)) wr) (fun i _ => m - (intOf i).toNat)
  case atStart => exact ⟨0, by omega, rfl, Below.refl _ _⟩
  case round =>
    obtain ⟨k, hkm, rfl, hB⟩ := hrel
    have hz := hB.size
    simp only [World.size_alloc] at hz
    have p1 : wr.cell? ⟨w.heap.size, 0, none⟩ = some (.int .i64 c) := (hB.cell (p := ⟨w.heap.size, 0, none⟩) (by show w.heap.size < _; omega)).trans P0.out
    have q1 : wr.cell? ⟨w.heap.size, 1, none⟩ = some (.int .i64 d) := (hB.cell (p := ⟨w.heap.size, 1, none⟩) (by show w.heap.size < _; omega)).trans Q0.out
    have hBw : Below w.heap.size w wr := Below.trans ((Below.refl _ _).alloc (Nat.le_refl _) _) (hB.mono (by omega))
    have hi1 : 0 ≤ (k : Int) := by omega
    by_cases hkl : k < xs.length
    · have hi2 : (k : Int) < (xs.length : Int) := by omega
      have cx : wr.cell? ⟨g, k * 2, none⟩ = some (.int .i64 (xs.getD k (0, 0)).1) := (hB.cell (p := ⟨g, k * 2, none⟩) (by show g < _; omega)).trans (X.out k (by omega))
      have cy : wr.cell? ⟨g, k * 2 + 1, none⟩ = some (.int .i64 (xs.getD k (0, 0)).2) := (hB.cell (p := ⟨g, k * 2 + 1, none⟩) (by show g < _; omega)).trans (Y.out k (by omega))
      obtain ⟨x, y, hxy⟩ : ∃ x y, xs.getD k (0, 0) = (x, y) := ⟨_, _, rfl⟩
      rw [hxy] at cx cy
      simp only at cx cy
      by_cases hkk : k = m
      · subst hkk
        have hS := HSt.out hkl
        have hE : ¬ (x, y) = (c, d) := fun e => HNE.out ⟨hkl, by rw [hxy, e]⟩
        rw [hxy] at hS
        have hq : (x == c) = false ∨ ((x == c) = true ∧ (y == d) = false) := by
          have : ¬ (x = c ∧ y = d) := fun e => hE (by rw [e.1, e.2])
          by_cases hxc : x = c
          · exact .inr ⟨by simpa using hxc, by simpa using fun e => this ⟨hxc, e⟩⟩
          · exact .inl (by simpa using hxc)
        have HSS := Lib.hid hS
        clear hS hE hxy
        go_wp2
        go_region_held3 (fun w' => w'.cell? ⟨g, k * 2, none⟩ = some (.int .i64 x) ∧ w'.cell? ⟨g, k * 2 + 1, none⟩ = some (.int .i64 y) ∧ w'.cell? ⟨w.heap.size, 0, none⟩ = some (.int .i64 c) ∧ w'.cell? ⟨w.heap.size, 1, none⟩ = some (.int .i64 d)) (go_keep)
          (first | (go_at_call 110; refine (srLess_any _ _ _ _ _).mono ?_; rintro e w1 ⟨rfl, hb⟩; rw [HSS.out]; have d1 := cellB hb cx; have d2 := cellB hb cy; have d3 := cellB hb p1; have d4 := cellB hb q1; (have hB2 : Below (w.heap.size + 1) (w.alloc (.cells #[.int .i64 c, .int .i64 d] 61)) w1 := by (refine Below.trans ?_ (hb.mono (by first | exact hz | (simp; omega))); go_grown))))
        go_wp2
        have hkc : (k : Int) ≤ (cap : Int) := by omega
        have hkl2 : (k : Int) ≤ (xs.length : Int) := by omega
        have hlc2 : (xs.length : Int) ≤ (cap : Int) := by omega
        rcases hq with hq | ⟨hq, hq2⟩
        · skip
          go_quiet (fail)
          go_wp2
          obtain ⟨W0, hW0⟩ : ∃ W0, W0 = w1.drewN nq := ⟨_, rfl⟩
          rw [← hW0]
          have b0 : W0.cell? ⟨w.heap.size, 0, none⟩ = some (.int .i64 c) := by rw [hW0]; exact d3
          have b1 : W0.cell? ⟨w.heap.size, 1, none⟩ = some (.int .i64 d) := by rw [hW0]; exact d4
          have hW : Below w.heap.size w W0 := by rw [hW0]; exact bdn (Below.trans ((Below.refl _ _).alloc (Nat.le_refl _) _) (hB2.mono (by omega))) _
          have hWz := hW.size
          have hbz : w.heap.size < W0.heap.size := by rw [hW0]; have := hB2.size; simp at this ⊢; omega
          have HS1 := Lib.hid (src_take (xs := xs) (k := k) (HS.out.later hW) (by omega))
          have HS2 := Lib.hid (fun c' => src_drop (xs := xs) (k := k) (c' := c') (HS.out.later hW) (by omega))
          have HU2 := Lib.hid (fun c' => src_drop_if (xs := xs) (k := k) (c' := c') (HS.out.later hW) (by omega) hlc)
          have HT2 := Lib.hid (fun (c' : Nat) (e : cap = k) => show SrcP W0 (.slice (some ⟨g, 0, none⟩) (xs.length - k) c') (xs.drop k) by have := src_drop_if (xs := xs) (k := k) (c' := c') (HS.out.later hW) (by omega) hlc; rwa [if_pos e] at this)
          clear hW0

          refine wp_region_held_drew (S := fun w' => Below W0.heap.size W0 w' ∧ w'.cell? ⟨w.heap.size, 0, none⟩ = some (.int .i64 c) ∧ w'.cell? ⟨w.heap.size, 1, none⟩ = some (.int .i64 d)) (by kernel_rfl) (by (try dsimp only); exact keepS b0 b1 (by go_grown)) (fun hHeld => ?_)
          refine wpAnyH_take (i := 1) (v := ?v20) rfl (by kernel_rfl) (by kernel_rfl) (by kernel_rfl) (fun _ _ _ h => h) (Or.inl ⟨by rfl, ?hy20⟩) (by assumption) ?rest20
          case hy20 => (intro w hSw; (try dsimp only at hSw); go_simp; (try with_reducible rfl))
          simp only [Act.put, List.getElem_toArray, List.getElem_cons_zero, List.getElem_cons_succ, List.setIfInBounds_toArray, List.set_cons_zero, List.set_cons_succ]
          refine wpAnyH_take (i := 2) (v := ?v21) rfl (by kernel_rfl) (by kernel_rfl) (by kernel_rfl) (fun _ _ _ h => h) (Or.inl ⟨by rfl, ?hy21⟩) (by assumption) ?rest21
          case hy21 => (intro w hSw; (try dsimp only at hSw); go_simp; (try with_reducible rfl))
          simp only [Act.put, List.getElem_toArray, List.getElem_cons_zero, List.getElem_cons_succ, List.setIfInBounds_toArray, List.set_cons_zero, List.set_cons_succ]
          refine wpAnyH_take (i := 3) (v := ?v22) rfl (by kernel_rfl) (by kernel_rfl) (by kernel_rfl) (fun _ _ _ h => h) (Or.inl ⟨by rfl, ?hy22⟩) (by assumption) ?rest22
          case hy22 => (intro w hSw; (try dsimp only at hSw); go_simp; (try with_reducible rfl))
          simp only [Act.put, List.getElem_toArray, List.getElem_cons_zero, List.getElem_cons_succ, List.setIfInBounds_toArray, List.set_cons_zero, List.set_cons_succ]
          refine wpAnyH_take (i := 5) (v := ?v23) rfl (by kernel_rfl) (by kernel_rfl) (by kernel_rfl) (fun _ _ _ h => h) (Or.inl ⟨by rfl, ?hy23⟩) (by assumption) ?rest23
          case hy23 => (intro w hSw; (try dsimp only at hSw); go_simp; (try with_reducible rfl))
          simp only [Act.put, List.getElem_toArray, List.getElem_cons_zero, List.getElem_cons_succ, List.setIfInBounds_toArray, List.set_cons_zero, List.set_cons_succ]
          refine wpAnyH_ready (rs := [0, 6]) (by kernel_rfl) (by simp) ?_
          refine AllReadyH.cons rfl (fun K hK => ?_) (AllReadyH.cons rfl (fun K hK => ?_) AllReadyH.nil)
          · skip
            simp only [List.getElem_toArray, List.getElem_cons_zero]
            go_simp
            refine hK.out _ _ (by (try dsimp only); exact keepS b0 b1 (by go_grown)) (fun hHeld => ?_)
            clear hK K
            have hI0 := Lib.hid (Pairs.boxed W0.drew W0.heap.size 61 [] (Nat.le_refl _) (by simp))
            refine wpAnyH_ready (rs := [4, 6]) (by kernel_rfl) (by simp) ?_
            refine AllReadyH.cons rfl (fun K hK => ?_) (AllReadyH.cons rfl (fun K hK => ?_) AllReadyH.nil)
            · skip
              simp only [List.getElem_toArray, List.getElem_cons_zero, List.getElem_cons_succ]
              rw [if_pos (by rfl)]; refine wp_append_pairs (.tmp 34) (.tmp 37) 31 rfl W0.heap.size 61 Try.underlying31 info_chord (.slice (some ⟨W0.heap.size, 0, none⟩) 0 0) (.slice (some ⟨g, 0, none⟩) k cap) [] (xs.take k) rfl rfl hI0.out (HS1.out.later hHeld.1) (by simp; omega) hHeld.1.size ?_; intro v2 w2 hI2 hg2 ho2
              refine hK.out _ _ (by (try dsimp only); exact keepS b0 b1 (Pairs.below hI0.out hHeld.1 hHeld.1.size hg2)) (fun hHeld => ?_)
              clear hK K
              simp only [Act.put, List.setIfInBounds_toArray, List.set_cons_zero, List.set_cons_succ]
              have hb2' := hHeld.1
              refine wpAnyH_ready (rs := [6]) (by kernel_rfl) (by simp) ?_
              refine AllReadyH.cons rfl (fun K hK => ?_) AllReadyH.nil
              simp only [List.getElem_toArray, List.getElem_cons_zero, List.getElem_cons_succ]
              go_simp
              refine hK.out _ _ (by (try dsimp only); exact keepS b0 b1 (hb2'.alloc hb2'.size _)) (fun hHeld => ?_)
              clear hK K
              have hC := Pairs.boxed w2 W0.heap.size 61 [(c, d)] (by have := hb2'.size; omega) (by simp)
              refine wpAnyH_ready (rs := [7]) (by kernel_rfl) (by simp) ?_
              refine AllReadyH.cons rfl (fun K hK => ?_) AllReadyH.nil
              simp only [List.getElem_toArray, List.getElem_cons_zero, List.getElem_cons_succ]
              rw [if_pos (by rfl)]; refine wp_append_pairs (.tmp 38) (.tmp 40) 31 rfl W0.heap.size 61 Try.underlying31 info_chord v2 (.slice (some ⟨w2.heap.size, 0, none⟩) 1 1) ([] ++ xs.take k) [(c, d)] rfl rfl (hI2.later ((Below.refl _ _).alloc (Nat.le_refl _) _)) (Pairs.src hC) (by simp; omega) hHeld.1.size ?_; intro v3 w3 hI3 hg3 ho3
              refine hK.out _ _ (by (try dsimp only); exact keepS b0 b1 (Pairs.below (hI2.later ((Below.refl _ _).alloc (Nat.le_refl _) _)) hHeld.1 hHeld.1.size hg3)) (fun hHeld => ?_)
              clear hK K
              simp only [Act.put, List.setIfInBounds_toArray, List.set_cons_zero, List.set_cons_succ]
              refine wpAnyH_take (i := 8) (v := ?v24) rfl (by kernel_rfl) (by kernel_rfl) (by kernel_rfl) (fun _ _ _ h => h) (Or.inl ⟨by rfl, ?hy24⟩) (by assumption) ?rest24
              case hy24 => (intro w hSw; (try dsimp only at hSw); go_simp; (try with_reducible rfl))
              simp only [Act.put, List.getElem_toArray, List.getElem_cons_zero, List.getElem_cons_succ, List.setIfInBounds_toArray, List.set_cons_zero, List.set_cons_succ]
              refine wpAnyH_done (by kernel_rfl) ?_ _
              have HS3 := Lib.hid (fun c' => (HS2.out c').later hHeld.1)
              have HT3 := Lib.hid (fun c' e => (HT2.out c' e).later hHeld.1)
              have HU3 := Lib.hid (fun c' => (HU2.out c').later hHeld.1)
              have HN := Lib.hid hI3
              have HB := hHeld.1
              have hz3 := HB.size
              clear hHeld
              go_wp2_with (first | (at_builtin; refine wpList_append_pairs rfl _ _ 31 rfl W0.heap.size 61 Try.underlying31 info_chord v3 _ _ _ rfl rfl HN.out (HS3.out _) (by simp; omega) hz3 ?_; intro v4 w4 hI4 hg4 _; have H4 := Lib.hid hI4; have HB4 := Pairs.below HN.out HB hz3 hg4; clear hI4 hg4) | (at_builtin; refine wpList_append_pairs rfl _ _ 31 rfl W0.heap.size 61 Try.underlying31 info_chord v3 _ _ _ rfl rfl HN.out (HT3.out _ (by first | assumption | rfl)) (by simp; omega) hz3 ?_; intro v4 w4 hI4 hg4 _; have H4 := Lib.hid hI4; have HB4 := Pairs.below HN.out HB hz3 hg4; clear hI4 hg4) | (at_builtin; refine wpList_append_pairs rfl _ _ 31 rfl W0.heap.size 61 Try.underlying31 info_chord v3 _ _ _ rfl rfl HN.out (HS3.out _) (by simp; omega) hz3 ?_; intro v4 w4 hI4 hg4 _; have H4 := Lib.hid hI4; have HB4 := Pairs.below HN.out HB hz3 hg4; clear hI4 hg4) | (at_builtin; refine wpList_append_pairs rfl _ _ 31 rfl W0.heap.size 61 Try.underlying31 info_chord v3 _ _ _ rfl rfl HN.out (HU3.out _) (by simp; omega) hz3 ?_; intro v4 w4 hI4 hg4 _; have H4 := Lib.hid hI4; have HB4 := Pairs.below HN.out HB hz3 hg4; clear hI4 hg4))
              all_goals
                go_ret
                exact ⟨_, rfl, ⟨by first | exact H4.out.mono hWz | (have hh := H4.out.mono hWz; rw [List.nil_append, List.append_assoc, List.singleton_append] at hh; exact hh), fun b hb => (H4.out.own b hb).2⟩, hW.trans (HB4.mono hWz)⟩
            · skip
              simp only [List.getElem_toArray, List.getElem_cons_zero, List.getElem_cons_succ]
              go_simp
              refine hK.out _ _ (by (try dsimp only); exact keepS b0 b1 (by go_grown)) (fun hHeld => ?_)
              clear hK K
              have hC := Pairs.boxedAt (W0.drew.alloc (.cells #[] 61)) W0.heap.size 61 [(c, d)] (W0.heap.size + 1) (by simp) (by omega) (by simp)
              have hI0' := hI0.out.later (w' := (W0.drew.alloc (.cells #[] 61)).alloc (.cells ((flatP [(c, d)]).map (Value.int .i64)).toArray 61)) ((Below.refl _ _).alloc (Nat.le_refl _) _)
              refine wpAnyH_ready (rs := [4]) (by kernel_rfl) (by simp) ?_
              refine AllReadyH.cons rfl (fun K hK => ?_) AllReadyH.nil
              simp only [List.getElem_toArray, List.getElem_cons_zero, List.getElem_cons_succ]
              rw [if_pos (by rfl)]; refine wp_append_pairs (.tmp 34) (.tmp 37) 31 rfl W0.heap.size 61 Try.underlying31 info_chord (.slice (some ⟨W0.heap.size, 0, none⟩) 0 0) (.slice (some ⟨g, 0, none⟩) k cap) [] (xs.take k) rfl rfl hI0' (HS1.out.later hHeld.1) (by simp; omega) hHeld.1.size ?_; intro v2 w2 hI2 hg2 ho2
              refine hK.out _ _ (by (try dsimp only); exact keepS b0 b1 (Pairs.below hI0' hHeld.1 hHeld.1.size hg2)) (fun hHeld => ?_)
              clear hK K
              simp only [Act.put, List.setIfInBounds_toArray, List.set_cons_zero, List.set_cons_succ]
              have hC2 := Pairs.keptBut hC hg2 (.inr (by simp [Value.ownBlock]))
              refine wpAnyH_ready (rs := [7]) (by kernel_rfl) (by simp) ?_
              refine AllReadyH.cons rfl (fun K hK => ?_) AllReadyH.nil
              simp only [List.getElem_toArray, List.getElem_cons_zero, List.getElem_cons_succ]
              rw [if_pos (by rfl)]; refine wp_append_pairs (.tmp 38) (.tmp 40) 31 rfl W0.heap.size 61 Try.underlying31 info_chord v2 (.slice (some ⟨(W0.heap.size + 1), 0, none⟩) 1 1) ([] ++ xs.take k) [(c, d)] rfl rfl hI2 (Pairs.src hC2) (by simp; omega) hHeld.1.size ?_; intro v3 w3 hI3 hg3 ho3
              refine hK.out _ _ (by (try dsimp only); exact keepS b0 b1 (Pairs.below hI2 hHeld.1 hHeld.1.size hg3)) (fun hHeld => ?_)
              clear hK K
              simp only [Act.put, List.setIfInBounds_toArray, List.set_cons_zero, List.set_cons_succ]
              refine wpAnyH_take (i := 8) (v := ?v25) rfl (by kernel_rfl) (by kernel_rfl) (by kernel_rfl) (fun _ _ _ h => h) (Or.inl ⟨by rfl, ?hy25⟩) (by assumption) ?rest25
              case hy25 => (intro w hSw; (try dsimp only at hSw); go_simp; (try with_reducible rfl))
              simp only [Act.put, List.getElem_toArray, List.getElem_cons_zero, List.getElem_cons_succ, List.setIfInBounds_toArray, List.set_cons_zero, List.set_cons_succ]
              refine wpAnyH_done (by kernel_rfl) ?_ _
              have HS3 := Lib.hid (fun c' => (HS2.out c').later hHeld.1)
              have HT3 := Lib.hid (fun c' e => (HT2.out c' e).later hHeld.1)
              have HU3 := Lib.hid (fun c' => (HU2.out c').later hHeld.1)
              have HN := Lib.hid hI3
              have HB := hHeld.1
              have hz3 := HB.size
              clear hHeld
              go_wp2_with (first | (at_builtin; refine wpList_append_pairs rfl _ _ 31 rfl W0.heap.size 61 Try.underlying31 info_chord v3 _ _ _ rfl rfl HN.out (HS3.out _) (by simp; omega) hz3 ?_; intro v4 w4 hI4 hg4 _; have H4 := Lib.hid hI4; have HB4 := Pairs.below HN.out HB hz3 hg4; clear hI4 hg4) | (at_builtin; refine wpList_append_pairs rfl _ _ 31 rfl W0.heap.size 61 Try.underlying31 info_chord v3 _ _ _ rfl rfl HN.out (HT3.out _ (by first | assumption | rfl)) (by simp; omega) hz3 ?_; intro v4 w4 hI4 hg4 _; have H4 := Lib.hid hI4; have HB4 := Pairs.below HN.out HB hz3 hg4; clear hI4 hg4) | (at_builtin; refine wpList_append_pairs rfl _ _ 31 rfl W0.heap.size 61 Try.underlying31 info_chord v3 _ _ _ rfl rfl HN.out (HS3.out _) (by simp; omega) hz3 ?_; intro v4 w4 hI4 hg4 _; have H4 := Lib.hid hI4; have HB4 := Pairs.below HN.out HB hz3 hg4; clear hI4 hg4) | (at_builtin; refine wpList_append_pairs rfl _ _ 31 rfl W0.heap.size 61 Try.underlying31 info_chord v3 _ _ _ rfl rfl HN.out (HU3.out _) (by simp; omega) hz3 ?_; intro v4 w4 hI4 hg4 _; have H4 := Lib.hid hI4; have HB4 := Pairs.below HN.out HB hz3 hg4; clear hI4 hg4))
              all_goals
                go_ret
                exact ⟨_, rfl, ⟨by first | exact H4.out.mono hWz | (have hh := H4.out.mono hWz; rw [List.nil_append, List.append_assoc, List.singleton_append] at hh; exact hh), fun b hb => (H4.out.own b hb).2⟩, hW.trans (HB4.mono hWz)⟩
          · skip
            simp only [List.getElem_toArray, List.getElem_cons_zero, List.getElem_cons_succ]
            go_simp
            refine hK.out _ _ (by (try dsimp only); exact keepS b0 b1 (by go_grown)) (fun hHeld => ?_)
            clear hK K
            have hC := Pairs.boxed W0.drew W0.heap.size 61 [(c, d)] (by simp) (by simp)
            refine wpAnyH_ready (rs := [0]) (by kernel_rfl) (by simp) ?_
            refine AllReadyH.cons rfl (fun K hK => ?_) AllReadyH.nil
            simp only [List.getElem_toArray, List.getElem_cons_zero]
            go_simp
            refine hK.out _ _ (by (try dsimp only); exact keepS b0 b1 (by go_grown)) (fun hHeld => ?_)
            clear hK K
            have hI0' := Pairs.boxedAt (W0.drew.alloc (.cells ((flatP [(c, d)]).map (Value.int .i64)).toArray 61)) W0.heap.size 61 [] (W0.heap.size + 1) (by simp) (by omega) (by simp)
            have hC1 := hC.later (w' := (W0.drew.alloc (.cells ((flatP [(c, d)]).map (Value.int .i64)).toArray 61)).alloc (.cells #[] 61)) ((Below.refl _ _).alloc (Nat.le_refl _) _)
            refine wpAnyH_ready (rs := [4]) (by kernel_rfl) (by simp) ?_
            refine AllReadyH.cons rfl (fun K hK => ?_) AllReadyH.nil
            simp only [List.getElem_toArray, List.getElem_cons_zero, List.getElem_cons_succ]
            rw [if_pos (by rfl)]; refine wp_append_pairs (.tmp 34) (.tmp 37) 31 rfl W0.heap.size 61 Try.underlying31 info_chord (.slice (some ⟨(W0.heap.size + 1), 0, none⟩) 0 0) (.slice (some ⟨g, 0, none⟩) k cap) [] (xs.take k) rfl rfl hI0' (HS1.out.later hHeld.1) (by simp; omega) hHeld.1.size ?_; intro v2 w2 hI2 hg2 ho2
            refine hK.out _ _ (by (try dsimp only); exact keepS b0 b1 (Pairs.below hI0' hHeld.1 hHeld.1.size hg2)) (fun hHeld => ?_)
            clear hK K
            simp only [Act.put, List.setIfInBounds_toArray, List.set_cons_zero, List.set_cons_succ]
            have hC2 := Pairs.keptBut hC1 hg2 (.inr (by simp [Value.ownBlock]))
            refine wpAnyH_ready (rs := [7]) (by kernel_rfl) (by simp) ?_
            refine AllReadyH.cons rfl (fun K hK => ?_) AllReadyH.nil
            simp only [List.getElem_toArray, List.getElem_cons_zero, List.getElem_cons_succ]
            rw [if_pos (by rfl)]; refine wp_append_pairs (.tmp 38) (.tmp 40) 31 rfl W0.heap.size 61 Try.underlying31 info_chord v2 (.slice (some ⟨W0.heap.size, 0, none⟩) 1 1) ([] ++ xs.take k) [(c, d)] rfl rfl hI2 (Pairs.src hC2) (by simp; omega) hHeld.1.size ?_; intro v3 w3 hI3 hg3 ho3
            refine hK.out _ _ (by (try dsimp only); exact keepS b0 b1 (Pairs.below hI2 hHeld.1 hHeld.1.size hg3)) (fun hHeld => ?_)
            clear hK K
            simp only [Act.put, List.setIfInBounds_toArray, List.set_cons_zero, List.set_cons_succ]
            refine wpAnyH_take (i := 8) (v := ?v26) rfl (by kernel_rfl) (by kernel_rfl) (by kernel_rfl) (fun _ _ _ h => h) (Or.inl ⟨by rfl, ?hy26⟩) (by assumption) ?rest26
            case hy26 => (intro w hSw; (try dsimp only at hSw); go_simp; (try with_reducible rfl))
            simp only [Act.put, List.getElem_toArray, List.getElem_cons_zero, List.getElem_cons_succ, List.setIfInBounds_toArray, List.set_cons_zero, List.set_cons_succ]
            refine wpAnyH_done (by kernel_rfl) ?_ _
            have HS3 := Lib.hid (fun c' => (HS2.out c').later hHeld.1)
            have HT3 := Lib.hid (fun c' e => (HT2.out c' e).later hHeld.1)
            have HU3 := Lib.hid (fun c' => (HU2.out c').later hHeld.1)
            have HN := Lib.hid hI3
            have HB := hHeld.1
            have hz3 := HB.size
            clear hHeld
            go_wp2_with (first | (at_builtin; refine wpList_append_pairs rfl _ _ 31 rfl W0.heap.size 61 Try.underlying31 info_chord v3 _ _ _ rfl rfl HN.out (HS3.out _) (by simp; omega) hz3 ?_; intro v4 w4 hI4 hg4 _; have H4 := Lib.hid hI4; have HB4 := Pairs.below HN.out HB hz3 hg4; clear hI4 hg4) | (at_builtin; refine wpList_append_pairs rfl _ _ 31 rfl W0.heap.size 61 Try.underlying31 info_chord v3 _ _ _ rfl rfl HN.out (HT3.out _ (by first | assumption | rfl)) (by simp; omega) hz3 ?_; intro v4 w4 hI4 hg4 _; have H4 := Lib.hid hI4; have HB4 := Pairs.below HN.out HB hz3 hg4; clear hI4 hg4) | (at_builtin; refine wpList_append_pairs rfl _ _ 31 rfl W0.heap.size 61 Try.underlying31 info_chord v3 _ _ _ rfl rfl HN.out (HS3.out _) (by simp; omega) hz3 ?_; intro v4 w4 hI4 hg4 _; have H4 := Lib.hid hI4; have HB4 := Pairs.below HN.out HB hz3 hg4; clear hI4 hg4) | (at_builtin; refine wpList_append_pairs rfl _ _ 31 rfl W0.heap.size 61 Try.underlying31 info_chord v3 _ _ _ rfl rfl HN.out (HU3.out _) (by simp; omega) hz3 ?_; intro v4 w4 hI4 hg4 _; have H4 := Lib.hid hI4; have HB4 := Pairs.below HN.out HB hz3 hg4; clear hI4 hg4))
            all_goals
              go_ret
              exact ⟨_, rfl, ⟨by first | exact H4.out.mono hWz | (have hh := H4.out.mono hWz; rw [List.nil_append, List.append_assoc, List.singleton_append] at hh; exact hh), fun b hb => (H4.out.own b hb).2⟩, hW.trans (HB4.mono hWz)⟩
        · skip
          go_quiet (fail)
          go_wp2
          obtain ⟨W0, hW0⟩ : ∃ W0, W0 = w1.drewN nq := ⟨_, rfl⟩
          rw [← hW0]
          have b0 : W0.cell? ⟨w.heap.size, 0, none⟩ = some (.int .i64 c) := by rw [hW0]; exact d3
          have b1 : W0.cell? ⟨w.heap.size, 1, none⟩ = some (.int .i64 d) := by rw [hW0]; exact d4
          have hW : Below w.heap.size w W0 := by rw [hW0]; exact bdn (Below.trans ((Below.refl _ _).alloc (Nat.le_refl _) _) (hB2.mono (by omega))) _
          have hWz := hW.size
          have hbz : w.heap.size < W0.heap.size := by rw [hW0]; have := hB2.size; simp at this ⊢; omega
          have HS1 := Lib.hid (src_take (xs := xs) (k := k) (HS.out.later hW) (by omega))
          have HS2 := Lib.hid (fun c' => src_drop (xs := xs) (k := k) (c' := c') (HS.out.later hW) (by omega))
          have HU2 := Lib.hid (fun c' => src_drop_if (xs := xs) (k := k) (c' := c') (HS.out.later hW) (by omega) hlc)
          have HT2 := Lib.hid (fun (c' : Nat) (e : cap = k) => show SrcP W0 (.slice (some ⟨g, 0, none⟩) (xs.length - k) c') (xs.drop k) by have := src_drop_if (xs := xs) (k := k) (c' := c') (HS.out.later hW) (by omega) hlc; rwa [if_pos e] at this)
          clear hW0

          refine wp_region_held_drew (S := fun w' => Below W0.heap.size W0 w' ∧ w'.cell? ⟨w.heap.size, 0, none⟩ = some (.int .i64 c) ∧ w'.cell? ⟨w.heap.size, 1, none⟩ = some (.int .i64 d)) (by kernel_rfl) (by (try dsimp only); exact keepS b0 b1 (by go_grown)) (fun hHeld => ?_)
          refine wpAnyH_take (i := 1) (v := ?v27) rfl (by kernel_rfl) (by kernel_rfl) (by kernel_rfl) (fun _ _ _ h => h) (Or.inl ⟨by rfl, ?hy27⟩) (by assumption) ?rest27
          case hy27 => (intro w hSw; (try dsimp only at hSw); go_simp; (try with_reducible rfl))
          simp only [Act.put, List.getElem_toArray, List.getElem_cons_zero, List.getElem_cons_succ, List.setIfInBounds_toArray, List.set_cons_zero, List.set_cons_succ]
          refine wpAnyH_take (i := 2) (v := ?v28) rfl (by kernel_rfl) (by kernel_rfl) (by kernel_rfl) (fun _ _ _ h => h) (Or.inl ⟨by rfl, ?hy28⟩) (by assumption) ?rest28
          case hy28 => (intro w hSw; (try dsimp only at hSw); go_simp; (try with_reducible rfl))
          simp only [Act.put, List.getElem_toArray, List.getElem_cons_zero, List.getElem_cons_succ, List.setIfInBounds_toArray, List.set_cons_zero, List.set_cons_succ]
          refine wpAnyH_take (i := 3) (v := ?v29) rfl (by kernel_rfl) (by kernel_rfl) (by kernel_rfl) (fun _ _ _ h => h) (Or.inl ⟨by rfl, ?hy29⟩) (by assumption) ?rest29
          case hy29 => (intro w hSw; (try dsimp only at hSw); go_simp; (try with_reducible rfl))
          simp only [Act.put, List.getElem_toArray, List.getElem_cons_zero, List.getElem_cons_succ, List.setIfInBounds_toArray, List.set_cons_zero, List.set_cons_succ]
          refine wpAnyH_take (i := 5) (v := ?v30) rfl (by kernel_rfl) (by kernel_rfl) (by kernel_rfl) (fun _ _ _ h => h) (Or.inl ⟨by rfl, ?hy30⟩) (by assumption) ?rest30
          case hy30 => (intro w hSw; (try dsimp only at hSw); go_simp; (try with_reducible rfl))
          simp only [Act.put, List.getElem_toArray, List.getElem_cons_zero, List.getElem_cons_succ, List.setIfInBounds_toArray, List.set_cons_zero, List.set_cons_succ]
          refine wpAnyH_ready (rs := [0, 6]) (by kernel_rfl) (by simp) ?_
          refine AllReadyH.cons rfl (fun K hK => ?_) (AllReadyH.cons rfl (fun K hK => ?_) AllReadyH.nil)
          · skip
            simp only [List.getElem_toArray, List.getElem_cons_zero]
            go_simp
            refine hK.out _ _ (by (try dsimp only); exact keepS b0 b1 (by go_grown)) (fun hHeld => ?_)
            clear hK K
            have hI0 := Lib.hid (Pairs.boxed W0.drew W0.heap.size 61 [] (Nat.le_refl _) (by simp))
            refine wpAnyH_ready (rs := [4, 6]) (by kernel_rfl) (by simp) ?_
            refine AllReadyH.cons rfl (fun K hK => ?_) (AllReadyH.cons rfl (fun K hK => ?_) AllReadyH.nil)
            · skip
              simp only [List.getElem_toArray, List.getElem_cons_zero, List.getElem_cons_succ]
              rw [if_pos (by rfl)]; refine wp_append_pairs (.tmp 34) (.tmp 37) 31 rfl W0.heap.size 61 Try.underlying31 info_chord (.slice (some ⟨W0.heap.size, 0, none⟩) 0 0) (.slice (some ⟨g, 0, none⟩) k cap) [] (xs.take k) rfl rfl hI0.out (HS1.out.later hHeld.1) (by simp; omega) hHeld.1.size ?_; intro v2 w2 hI2 hg2 ho2
              refine hK.out _ _ (by (try dsimp only); exact keepS b0 b1 (Pairs.below hI0.out hHeld.1 hHeld.1.size hg2)) (fun hHeld => ?_)
              clear hK K
              simp only [Act.put, List.setIfInBounds_toArray, List.set_cons_zero, List.set_cons_succ]
              have hb2' := hHeld.1
              refine wpAnyH_ready (rs := [6]) (by kernel_rfl) (by simp) ?_
              refine AllReadyH.cons rfl (fun K hK => ?_) AllReadyH.nil
              simp only [List.getElem_toArray, List.getElem_cons_zero, List.getElem_cons_succ]
              go_simp
              refine hK.out _ _ (by (try dsimp only); exact keepS b0 b1 (hb2'.alloc hb2'.size _)) (fun hHeld => ?_)
              clear hK K
              have hC := Pairs.boxed w2 W0.heap.size 61 [(c, d)] (by have := hb2'.size; omega) (by simp)
              refine wpAnyH_ready (rs := [7]) (by kernel_rfl) (by simp) ?_
              refine AllReadyH.cons rfl (fun K hK => ?_) AllReadyH.nil
              simp only [List.getElem_toArray, List.getElem_cons_zero, List.getElem_cons_succ]
              rw [if_pos (by rfl)]; refine wp_append_pairs (.tmp 38) (.tmp 40) 31 rfl W0.heap.size 61 Try.underlying31 info_chord v2 (.slice (some ⟨w2.heap.size, 0, none⟩) 1 1) ([] ++ xs.take k) [(c, d)] rfl rfl (hI2.later ((Below.refl _ _).alloc (Nat.le_refl _) _)) (Pairs.src hC) (by simp; omega) hHeld.1.size ?_; intro v3 w3 hI3 hg3 ho3
              refine hK.out _ _ (by (try dsimp only); exact keepS b0 b1 (Pairs.below (hI2.later ((Below.refl _ _).alloc (Nat.le_refl _) _)) hHeld.1 hHeld.1.size hg3)) (fun hHeld => ?_)
              clear hK K
              simp only [Act.put, List.setIfInBounds_toArray, List.set_cons_zero, List.set_cons_succ]
              refine wpAnyH_take (i := 8) (v := ?v31) rfl (by kernel_rfl) (by kernel_rfl) (by kernel_rfl) (fun _ _ _ h => h) (Or.inl ⟨by rfl, ?hy31⟩) (by assumption) ?rest31
              case hy31 => (intro w hSw; (try dsimp only at hSw); go_simp; (try with_reducible rfl))
              simp only [Act.put, List.getElem_toArray, List.getElem_cons_zero, List.getElem_cons_succ, List.setIfInBounds_toArray, List.set_cons_zero, List.set_cons_succ]
              refine wpAnyH_done (by kernel_rfl) ?_ _
              have HS3 := Lib.hid (fun c' => (HS2.out c').later hHeld.1)
              have HT3 := Lib.hid (fun c' e => (HT2.out c' e).later hHeld.1)
              have HU3 := Lib.hid (fun c' => (HU2.out c').later hHeld.1)
              have HN := Lib.hid hI3
              have HB := hHeld.1
              have hz3 := HB.size
              clear hHeld
              go_wp2_with (first | (at_builtin; refine wpList_append_pairs rfl _ _ 31 rfl W0.heap.size 61 Try.underlying31 info_chord v3 _ _ _ rfl rfl HN.out (HS3.out _) (by simp; omega) hz3 ?_; intro v4 w4 hI4 hg4 _; have H4 := Lib.hid hI4; have HB4 := Pairs.below HN.out HB hz3 hg4; clear hI4 hg4) | (at_builtin; refine wpList_append_pairs rfl _ _ 31 rfl W0.heap.size 61 Try.underlying31 info_chord v3 _ _ _ rfl rfl HN.out (HT3.out _ (by first | assumption | rfl)) (by simp; omega) hz3 ?_; intro v4 w4 hI4 hg4 _; have H4 := Lib.hid hI4; have HB4 := Pairs.below HN.out HB hz3 hg4; clear hI4 hg4) | (at_builtin; refine wpList_append_pairs rfl _ _ 31 rfl W0.heap.size 61 Try.underlying31 info_chord v3 _ _ _ rfl rfl HN.out (HS3.out _) (by simp; omega) hz3 ?_; intro v4 w4 hI4 hg4 _; have H4 := Lib.hid hI4; have HB4 := Pairs.below HN.out HB hz3 hg4; clear hI4 hg4) | (at_builtin; refine wpList_append_pairs rfl _ _ 31 rfl W0.heap.size 61 Try.underlying31 info_chord v3 _ _ _ rfl rfl HN.out (HU3.out _) (by simp; omega) hz3 ?_; intro v4 w4 hI4 hg4 _; have H4 := Lib.hid hI4; have HB4 := Pairs.below HN.out HB hz3 hg4; clear hI4 hg4))
              all_goals
                go_ret
                exact ⟨_, rfl, ⟨by first | exact H4.out.mono hWz | (have hh := H4.out.mono hWz; rw [List.nil_append, List.append_assoc, List.singleton_append] at hh; exact hh), fun b hb => (H4.out.own b hb).2⟩, hW.trans (HB4.mono hWz)⟩
            · skip
              simp only [List.getElem_toArray, List.getElem_cons_zero, List.getElem_cons_succ]
              go_simp
              refine hK.out _ _ (by (try dsimp only); exact keepS b0 b1 (by go_grown)) (fun hHeld => ?_)
              clear hK K
              have hC := Pairs.boxedAt (W0.drew.alloc (.cells #[] 61)) W0.heap.size 61 [(c, d)] (W0.heap.size + 1) (by simp) (by omega) (by simp)
              have hI0' := hI0.out.later (w' := (W0.drew.alloc (.cells #[] 61)).alloc (.cells ((flatP [(c, d)]).map (Value.int .i64)).toArray 61)) ((Below.refl _ _).alloc (Nat.le_refl _) _)
              refine wpAnyH_ready (rs := [4]) (by kernel_rfl) (by simp) ?_
              refine AllReadyH.cons rfl (fun K hK => ?_) AllReadyH.nil
              simp only [List.getElem_toArray, List.getElem_cons_zero, List.getElem_cons_succ]
              rw [if_pos (by rfl)]; refine wp_append_pairs (.tmp 34) (.tmp 37) 31 rfl W0.heap.size 61 Try.underlying31 info_chord (.slice (some ⟨W0.heap.size, 0, none⟩) 0 0) (.slice (some ⟨g, 0, none⟩) k cap) [] (xs.take k) rfl rfl hI0' (HS1.out.later hHeld.1) (by simp; omega) hHeld.1.size ?_; intro v2 w2 hI2 hg2 ho2
              refine hK.out _ _ (by (try dsimp only); exact keepS b0 b1 (Pairs.below hI0' hHeld.1 hHeld.1.size hg2)) (fun hHeld => ?_)
              clear hK K
              simp only [Act.put, List.setIfInBounds_toArray, List.set_cons_zero, List.set_cons_succ]
              have hC2 := Pairs.keptBut hC hg2 (.inr (by simp [Value.ownBlock]))
              refine wpAnyH_ready (rs := [7]) (by kernel_rfl) (by simp) ?_
              refine AllReadyH.cons rfl (fun K hK => ?_) AllReadyH.nil
              simp only [List.getElem_toArray, List.getElem_cons_zero, List.getElem_cons_succ]
              rw [if_pos (by rfl)]; refine wp_append_pairs (.tmp 38) (.tmp 40) 31 rfl W0.heap.size 61 Try.underlying31 info_chord v2 (.slice (some ⟨(W0.heap.size + 1), 0, none⟩) 1 1) ([] ++ xs.take k) [(c, d)] rfl rfl hI2 (Pairs.src hC2) (by simp; omega) hHeld.1.size ?_; intro v3 w3 hI3 hg3 ho3
              refine hK.out _ _ (by (try dsimp only); exact keepS b0 b1 (Pairs.below hI2 hHeld.1 hHeld.1.size hg3)) (fun hHeld => ?_)
              clear hK K
              simp only [Act.put, List.setIfInBounds_toArray, List.set_cons_zero, List.set_cons_succ]
              refine wpAnyH_take (i := 8) (v := ?v32) rfl (by kernel_rfl) (by kernel_rfl) (by kernel_rfl) (fun _ _ _ h => h) (Or.inl ⟨by rfl, ?hy32⟩) (by assumption) ?rest32
              case hy32 => (intro w hSw; (try dsimp only at hSw); go_simp; (try with_reducible rfl))
              simp only [Act.put, List.getElem_toArray, List.getElem_cons_zero, List.getElem_cons_succ, List.setIfInBounds_toArray, List.set_cons_zero, List.set_cons_succ]
              refine wpAnyH_done (by kernel_rfl) ?_ _
              have HS3 := Lib.hid (fun c' => (HS2.out c').later hHeld.1)
              have HT3 := Lib.hid (fun c' e => (HT2.out c' e).later hHeld.1)
              have HU3 := Lib.hid (fun c' => (HU2.out c').later hHeld.1)
              have HN := Lib.hid hI3
              have HB := hHeld.1
              have hz3 := HB.size
              clear hHeld
              go_wp2_with (first | (at_builtin; refine wpList_append_pairs rfl _ _ 31 rfl W0.heap.size 61 Try.underlying31 info_chord v3 _ _ _ rfl rfl HN.out (HS3.out _) (by simp; omega) hz3 ?_; intro v4 w4 hI4 hg4 _; have H4 := Lib.hid hI4; have HB4 := Pairs.below HN.out HB hz3 hg4; clear hI4 hg4) | (at_builtin; refine wpList_append_pairs rfl _ _ 31 rfl W0.heap.size 61 Try.underlying31 info_chord v3 _ _ _ rfl rfl HN.out (HT3.out _ (by first | assumption | rfl)) (by simp; omega) hz3 ?_; intro v4 w4 hI4 hg4 _; have H4 := Lib.hid hI4; have HB4 := Pairs.below HN.out HB hz3 hg4; clear hI4 hg4) | (at_builtin; refine wpList_append_pairs rfl _ _ 31 rfl W0.heap.size 61 Try.underlying31 info_chord v3 _ _ _ rfl rfl HN.out (HS3.out _) (by simp; omega) hz3 ?_; intro v4 w4 hI4 hg4 _; have H4 := Lib.hid hI4; have HB4 := Pairs.below HN.out HB hz3 hg4; clear hI4 hg4) | (at_builtin; refine wpList_append_pairs rfl _ _ 31 rfl W0.heap.size 61 Try.underlying31 info_chord v3 _ _ _ rfl rfl HN.out (HU3.out _) (by simp; omega) hz3 ?_; intro v4 w4 hI4 hg4 _; have H4 := Lib.hid hI4; have HB4 := Pairs.below HN.out HB hz3 hg4; clear hI4 hg4))
              all_goals
                go_ret
                exact ⟨_, rfl, ⟨by first | exact H4.out.mono hWz | (have hh := H4.out.mono hWz; rw [List.nil_append, List.append_assoc, List.singleton_append] at hh; exact hh), fun b hb => (H4.out.own b hb).2⟩, hW.trans (HB4.mono hWz)⟩
          · skip
            simp only [List.getElem_toArray, List.getElem_cons_zero, List.getElem_cons_succ]
            go_simp
            refine hK.out _ _ (by (try dsimp only); exact keepS b0 b1 (by go_grown)) (fun hHeld => ?_)
            clear hK K
            have hC := Pairs.boxed W0.drew W0.heap.size 61 [(c, d)] (by simp) (by simp)
            refine wpAnyH_ready (rs := [0]) (by kernel_rfl) (by simp) ?_
            refine AllReadyH.cons rfl (fun K hK => ?_) AllReadyH.nil
            simp only [List.getElem_toArray, List.getElem_cons_zero]
            go_simp
            refine hK.out _ _ (by (try dsimp only); exact keepS b0 b1 (by go_grown)) (fun hHeld => ?_)
            clear hK K
            have hI0' := Pairs.boxedAt (W0.drew.alloc (.cells ((flatP [(c, d)]).map (Value.int .i64)).toArray 61)) W0.heap.size 61 [] (W0.heap.size + 1) (by simp) (by omega) (by simp)
            have hC1 := hC.later (w' := (W0.drew.alloc (.cells ((flatP [(c, d)]).map (Value.int .i64)).toArray 61)).alloc (.cells #[] 61)) ((Below.refl _ _).alloc (Nat.le_refl _) _)
            refine wpAnyH_ready (rs := [4]) (by kernel_rfl) (by simp) ?_
            refine AllReadyH.cons rfl (fun K hK => ?_) AllReadyH.nil
            simp only [List.getElem_toArray, List.getElem_cons_zero, List.getElem_cons_succ]
            rw [if_pos (by rfl)]; refine wp_append_pairs (.tmp 34) (.tmp 37) 31 rfl W0.heap.size 61 Try.underlying31 info_chord (.slice (some ⟨(W0.heap.size + 1), 0, none⟩) 0 0) (.slice (some ⟨g, 0, none⟩) k cap) [] (xs.take k) rfl rfl hI0' (HS1.out.later hHeld.1) (by simp; omega) hHeld.1.size ?_; intro v2 w2 hI2 hg2 ho2
            refine hK.out _ _ (by (try dsimp only); exact keepS b0 b1 (Pairs.below hI0' hHeld.1 hHeld.1.size hg2)) (fun hHeld => ?_)
            clear hK K
            simp only [Act.put, List.setIfInBounds_toArray, List.set_cons_zero, List.set_cons_succ]
            have hC2 := Pairs.keptBut hC1 hg2 (.inr (by simp [Value.ownBlock]))
            refine wpAnyH_ready (rs := [7]) (by kernel_rfl) (by simp) ?_
            refine AllReadyH.cons rfl (fun K hK => ?_) AllReadyH.nil
            simp only [List.getElem_toArray, List.getElem_cons_zero, List.getElem_cons_succ]
            rw [if_pos (by rfl)]; refine wp_append_pairs (.tmp 38) (.tmp 40) 31 rfl W0.heap.size 61 Try.underlying31 info_chord v2 (.slice (some ⟨W0.heap.size, 0, none⟩) 1 1) ([] ++ xs.take k) [(c, d)] rfl rfl hI2 (Pairs.src hC2) (by simp; omega) hHeld.1.size ?_; intro v3 w3 hI3 hg3 ho3
            refine hK.out _ _ (by (try dsimp only); exact keepS b0 b1 (Pairs.below hI2 hHeld.1 hHeld.1.size hg3)) (fun hHeld => ?_)
            clear hK K
            simp only [Act.put, List.setIfInBounds_toArray, List.set_cons_zero, List.set_cons_succ]
            refine wpAnyH_take (i := 8) (v := ?v33) rfl (by kernel_rfl) (by kernel_rfl) (by kernel_rfl) (fun _ _ _ h => h) (Or.inl ⟨by rfl, ?hy33⟩) (by assumption) ?rest33
            case hy33 => (intro w hSw; (try dsimp only at hSw); go_simp; (try with_reducible rfl))
            simp only [Act.put, List.getElem_toArray, List.getElem_cons_zero, List.getElem_cons_succ, List.setIfInBounds_toArray, List.set_cons_zero, List.set_cons_succ]
            refine wpAnyH_done (by kernel_rfl) ?_ _
            have HS3 := Lib.hid (fun c' => (HS2.out c').later hHeld.1)
            have HT3 := Lib.hid (fun c' e => (HT2.out c' e).later hHeld.1)
            have HU3 := Lib.hid (fun c' => (HU2.out c').later hHeld.1)
            have HN := Lib.hid hI3
            have HB := hHeld.1
            have hz3 := HB.size
            clear hHeld
            go_wp2_with (first | (at_builtin; refine wpList_append_pairs rfl _ _ 31 rfl W0.heap.size 61 Try.underlying31 info_chord v3 _ _ _ rfl rfl HN.out (HS3.out _) (by simp; omega) hz3 ?_; intro v4 w4 hI4 hg4 _; have H4 := Lib.hid hI4; have HB4 := Pairs.below HN.out HB hz3 hg4; clear hI4 hg4) | (at_builtin; refine wpList_append_pairs rfl _ _ 31 rfl W0.heap.size 61 Try.underlying31 info_chord v3 _ _ _ rfl rfl HN.out (HT3.out _ (by first | assumption | rfl)) (by simp; omega) hz3 ?_; intro v4 w4 hI4 hg4 _; have H4 := Lib.hid hI4; have HB4 := Pairs.below HN.out HB hz3 hg4; clear hI4 hg4) | (at_builtin; refine wpList_append_pairs rfl _ _ 31 rfl W0.heap.size 61 Try.underlying31 info_chord v3 _ _ _ rfl rfl HN.out (HS3.out _) (by simp; omega) hz3 ?_; intro v4 w4 hI4 hg4 _; have H4 := Lib.hid hI4; have HB4 := Pairs.below HN.out HB hz3 hg4; clear hI4 hg4) | (at_builtin; refine wpList_append_pairs rfl _ _ 31 rfl W0.heap.size 61 Try.underlying31 info_chord v3 _ _ _ rfl rfl HN.out (HU3.out _) (by simp; omega) hz3 ?_; intro v4 w4 hI4 hg4 _; have H4 := Lib.hid hI4; have HB4 := Pairs.below HN.out HB hz3 hg4; clear hI4 hg4))
            all_goals
              go_ret
              exact ⟨_, rfl, ⟨by first | exact H4.out.mono hWz | (have hh := H4.out.mono hWz; rw [List.nil_append, List.append_assoc, List.singleton_append] at hh; exact hh), fun b hb => (H4.out.own b hb).2⟩, hW.trans (HB4.mono hWz)⟩
      · have hLs := HL.out k (by omega)
        rw [hxy] at hLs
        have HLS := Lib.hid hLs
        clear hLs hxy
        go_wp2
        go_region_held3 (fun w' => w'.cell? ⟨g, k * 2, none⟩ = some (.int .i64 x) ∧ w'.cell? ⟨g, k * 2 + 1, none⟩ = some (.int .i64 y) ∧ w'.cell? ⟨w.heap.size, 0, none⟩ = some (.int .i64 c) ∧ w'.cell? ⟨w.heap.size, 1, none⟩ = some (.int .i64 d)) (go_keep)
          (first | (go_at_call 110; refine (srLess_any _ _ _ _ _).mono ?_; rintro e w1 ⟨rfl, hb⟩; rw [HLS.out]; have d1 := cellB hb cx; have d2 := cellB hb cy; have d3 := cellB hb p1; have d4 := cellB hb q1; (have hB2 : Below (w.heap.size + 1) (w.alloc (.cells #[.int .i64 c, .int .i64 d] 61)) w1 := by (refine Below.trans ?_ (hb.mono (by first | exact hz | (simp; omega))); go_grown))))
        go_wp2
        go_roundw
        case rel => exact ⟨k + 1, by omega, by go_num, hB2⟩
        case measure => simp [intOf]; omega
    · have hkm2 : k = m := by omega
      have hnl : decide (k < xs.length) = false := by simp; omega
      have hkc : (k : Int) ≤ (cap : Int) := by omega
      have hkl2 : (k : Int) ≤ (xs.length : Int) := by omega
      have hlc2 : (xs.length : Int) ≤ (cap : Int) := by omega
      subst hkm2
      go_wp2
      refine wp_region_held_drew (S := fun w' => Below wr.heap.size wr w') (by kernel_rfl) (by (try dsimp only); go_grown) (fun hHeld => ?_)
      refine wpAnyH_take (i := 0) (v := ?v34) rfl (by kernel_rfl) (by kernel_rfl) (by kernel_rfl) (fun _ _ _ h => h) (Or.inl ⟨by rfl, ?hy34⟩) (by assumption) ?rest34
      case hy34 => (intro w hSw; (try dsimp only at hSw); go_simp; (try with_reducible rfl))
      simp only [Act.put, List.getElem_toArray, List.getElem_cons_zero, List.setIfInBounds_toArray, List.set_cons_zero, List.set_cons_succ]
      refine wpAnyH_take (i := 1) (v := ?v35) rfl (by kernel_rfl) (by kernel_rfl) (by kernel_rfl) (fun _ _ _ h => h) (Or.inl ⟨by rfl, ?hy35⟩) (by assumption) ?rest35
      case hy35 => (intro w hSw; (try dsimp only at hSw); go_simp; (try with_reducible rfl))
      simp only [Act.put, List.getElem_toArray, List.getElem_cons_zero, List.getElem_cons_succ, List.setIfInBounds_toArray, List.set_cons_zero, List.set_cons_succ]
      refine wpAnyH_take (i := 2) (v := ?v36) rfl (by kernel_rfl) (by kernel_rfl) (by kernel_rfl) (fun _ _ _ h => h) (Or.inl ⟨by rfl, ?hy36⟩) (by assumption) ?rest36
      case hy36 => (intro w hSw; (try dsimp only at hSw); go_simp; (try with_reducible rfl))
      simp only [Act.put, List.getElem_toArray, List.getElem_cons_zero, List.getElem_cons_succ, List.setIfInBounds_toArray, List.set_cons_zero, List.set_cons_succ]
      refine wpAnyH_take (i := 3) (v := ?v37) rfl (by kernel_rfl) (by kernel_rfl) (by kernel_rfl) (fun _ _ _ h => h) (Or.inl ⟨by rfl, ?hy37⟩) (by assumption) ?rest37
      case hy37 => (intro w hSw; (try dsimp only at hSw); go_simp; (try with_reducible rfl))
      simp only [Act.put, List.getElem_toArray, List.getElem_cons_zero, List.getElem_cons_succ, List.setIfInBounds_toArray, List.set_cons_zero, List.set_cons_succ]
      refine wpAnyH_take (i := 4) (v := ?v38) rfl (by kernel_rfl) (by kernel_rfl) (by kernel_rfl) (fun _ _ _ h => h) (Or.inl ⟨by rfl, ?hy38⟩) (by assumption) ?rest38
      case hy38 => (intro w hSw; (try dsimp only at hSw); go_simp; (try with_reducible rfl))
      simp only [Act.put, List.getElem_toArray, List.getElem_cons_zero, List.getElem_cons_succ, List.setIfInBounds_toArray, List.set_cons_zero, List.set_cons_succ]
      refine wpAnyH_take (i := 5) (v := undef) rfl (by kernel_rfl) (by kernel_rfl) (by kernel_rfl) (fun _ _ _ h => h) (Or.inr ⟨by rfl, rfl⟩) (by assumption) ?_
      simp only [Act.put, List.getElem_toArray, List.getElem_cons_zero, List.getElem_cons_succ, List.setIfInBounds_toArray, List.set_cons_zero, List.set_cons_succ]
      refine wpAnyH_take (i := 6) (v := undef) rfl (by kernel_rfl) (by kernel_rfl) (by kernel_rfl) (fun _ _ _ h => h) (Or.inr ⟨by rfl, rfl⟩) (by assumption) ?_
      simp only [Act.put, List.getElem_toArray, List.getElem_cons_zero, List.getElem_cons_succ, List.setIfInBounds_toArray, List.set_cons_zero, List.set_cons_succ]
      refine wpAnyH_take (i := 7) (v := undef) rfl (by kernel_rfl) (by kernel_rfl) (by kernel_rfl) (fun _ _ _ h => h) (Or.inr ⟨by rfl, rfl⟩) (by assumption) ?_
      simp only [Act.put, List.getElem_toArray, List.getElem_cons_zero, List.getElem_cons_succ, List.setIfInBounds_toArray, List.set_cons_zero, List.set_cons_succ]
      refine wpAnyH_take (i := 8) (v := undef) rfl (by kernel_rfl) (by kernel_rfl) (by kernel_rfl) (fun _ _ _ h => h) (Or.inr ⟨by rfl, rfl⟩) (by assumption) ?_
      simp only [Act.put, List.getElem_toArray, List.getElem_cons_zero, List.getElem_cons_succ, List.setIfInBounds_toArray, List.set_cons_zero, List.set_cons_succ]
      refine wpAnyH_take (i := 9) (v := undef) rfl (by kernel_rfl) (by kernel_rfl) (by kernel_rfl) (fun _ _ _ h => h) (Or.inr ⟨by rfl, rfl⟩) (by assumption) ?_
      simp only [Act.put, List.getElem_toArray, List.getElem_cons_zero, List.getElem_cons_succ, List.setIfInBounds_toArray, List.set_cons_zero, List.set_cons_succ]
      refine wpAnyH_take (i := 10) (v := undef) rfl (by kernel_rfl) (by kernel_rfl) (by kernel_rfl) (fun _ _ _ h => h) (Or.inr ⟨by rfl, rfl⟩) (by assumption) ?_
      simp only [Act.put, List.getElem_toArray, List.getElem_cons_zero, List.getElem_cons_succ, List.setIfInBounds_toArray, List.set_cons_zero, List.set_cons_succ]
      refine wpAnyH_take (i := 11) (v := ?v39) rfl (by kernel_rfl) (by kernel_rfl) (by kernel_rfl) (fun _ _ _ h => h) (Or.inl ⟨by rfl, ?hy39⟩) (by assumption) ?rest39
      case hy39 => (intro w hSw; (try dsimp only at hSw); go_simp; (try with_reducible rfl))
      simp only [Act.put, List.getElem_toArray, List.getElem_cons_zero, List.getElem_cons_succ, List.setIfInBounds_toArray, List.set_cons_zero, List.set_cons_succ]
      refine wpAnyH_done (by kernel_rfl) ?_ _
      go_wp2
      refine wp_region_held_drew (S := fun w' => Below wr.heap.size wr w') (by kernel_rfl) (by (try dsimp only); go_grown) (fun hHeld => ?_)
      refine wpAnyH_take (i := 0) (v := ?v40) rfl (by kernel_rfl) (by kernel_rfl) (by kernel_rfl) (fun _ _ _ h => h) (Or.inl ⟨by rfl, ?hy40⟩) (by assumption) ?rest40
      case hy40 => (intro w hSw; (try dsimp only at hSw); go_simp; (try with_reducible rfl))
      simp only [Act.put, List.getElem_toArray, List.getElem_cons_zero, List.setIfInBounds_toArray, List.set_cons_zero, List.set_cons_succ]
      refine wpAnyH_take (i := 1) (v := ?v41) rfl (by kernel_rfl) (by kernel_rfl) (by kernel_rfl) (fun _ _ _ h => h) (Or.inl ⟨by rfl, ?hy41⟩) (by assumption) ?rest41
      case hy41 => (intro w hSw; (try dsimp only at hSw); go_simp; (try with_reducible rfl))
      simp only [Act.put, List.getElem_toArray, List.getElem_cons_zero, List.getElem_cons_succ, List.setIfInBounds_toArray, List.set_cons_zero, List.set_cons_succ]
      refine wpAnyH_take (i := 2) (v := ?v42) rfl (by kernel_rfl) (by kernel_rfl) (by kernel_rfl) (fun _ _ _ h => h) (Or.inl ⟨by rfl, ?hy42⟩) (by assumption) ?rest42
      case hy42 => (intro w hSw; (try dsimp only at hSw); go_simp; (try with_reducible rfl))
      simp only [Act.put, List.getElem_toArray, List.getElem_cons_zero, List.getElem_cons_succ, List.setIfInBounds_toArray, List.set_cons_zero, List.set_cons_succ]
      refine wpAnyH_take (i := 3) (v := ?v43) rfl (by kernel_rfl) (by kernel_rfl) (by kernel_rfl) (fun _ _ _ h => h) (Or.inl ⟨by rfl, ?hy43⟩) (by assumption) ?rest43
      case hy43 => (intro w hSw; (try dsimp only at hSw); go_simp; (try with_reducible rfl))
      simp only [Act.put, List.getElem_toArray, List.getElem_cons_zero, List.getElem_cons_succ, List.setIfInBounds_toArray, List.set_cons_zero, List.set_cons_succ]
      refine wpAnyH_take (i := 4) (v := ?v44) rfl (by kernel_rfl) (by kernel_rfl) (by kernel_rfl) (fun _ _ _ h => h) (Or.inl ⟨by rfl, ?hy44⟩) (by assumption) ?rest44
      case hy44 => (intro w hSw; (try dsimp only at hSw); go_simp; (try with_reducible rfl))
      simp only [Act.put, List.getElem_toArray, List.getElem_cons_zero, List.getElem_cons_succ, List.setIfInBounds_toArray, List.set_cons_zero, List.set_cons_succ]
      refine wpAnyH_take (i := 5) (v := undef) rfl (by kernel_rfl) (by kernel_rfl) (by kernel_rfl) (fun _ _ _ h => h) (Or.inr ⟨by rfl, rfl⟩) (by assumption) ?_
      simp only [Act.put, List.getElem_toArray, List.getElem_cons_zero, List.getElem_cons_succ, List.setIfInBounds_toArray, List.set_cons_zero, List.set_cons_succ]
      refine wpAnyH_take (i := 6) (v := undef) rfl (by kernel_rfl) (by kernel_rfl) (by kernel_rfl) (fun _ _ _ h => h) (Or.inr ⟨by rfl, rfl⟩) (by assumption) ?_
      simp only [Act.put, List.getElem_toArray, List.getElem_cons_zero, List.getElem_cons_succ, List.setIfInBounds_toArray, List.set_cons_zero, List.set_cons_succ]
      refine wpAnyH_take (i := 7) (v := undef) rfl (by kernel_rfl) (by kernel_rfl) (by kernel_rfl) (fun _ _ _ h => h) (Or.inr ⟨by rfl, rfl⟩) (by assumption) ?_
      simp only [Act.put, List.getElem_toArray, List.getElem_cons_zero, List.getElem_cons_succ, List.setIfInBounds_toArray, List.set_cons_zero, List.set_cons_succ]
      refine wpAnyH_take (i := 8) (v := undef) rfl (by kernel_rfl) (by kernel_rfl) (by kernel_rfl) (fun _ _ _ h => h) (Or.inr ⟨by rfl, rfl⟩) (by assumption) ?_
      simp only [Act.put, List.getElem_toArray, List.getElem_cons_zero, List.getElem_cons_succ, List.setIfInBounds_toArray, List.set_cons_zero, List.set_cons_succ]
      refine wpAnyH_take (i := 9) (v := undef) rfl (by kernel_rfl) (by kernel_rfl) (by kernel_rfl) (fun _ _ _ h => h) (Or.inr ⟨by rfl, rfl⟩) (by assumption) ?_
      simp only [Act.put, List.getElem_toArray, List.getElem_cons_zero, List.getElem_cons_succ, List.setIfInBounds_toArray, List.set_cons_zero, List.set_cons_succ]
      refine wpAnyH_take (i := 10) (v := undef) rfl (by kernel_rfl) (by kernel_rfl) (by kernel_rfl) (fun _ _ _ h => h) (Or.inr ⟨by rfl, rfl⟩) (by assumption) ?_
      simp only [Act.put, List.getElem_toArray, List.getElem_cons_zero, List.getElem_cons_succ, List.setIfInBounds_toArray, List.set_cons_zero, List.set_cons_succ]
      refine wpAnyH_take (i := 11) (v := ?v45) rfl (by kernel_rfl) (by kernel_rfl) (by kernel_rfl) (fun _ _ _ h => h) (Or.inl ⟨by rfl, ?hy45⟩) (by assumption) ?rest45
      case hy45 => (intro w hSw; (try dsimp only at hSw); go_simp; (try with_reducible rfl))
      simp only [Act.put, List.getElem_toArray, List.getElem_cons_zero, List.getElem_cons_succ, List.setIfInBounds_toArray, List.set_cons_zero, List.set_cons_succ]
      refine wpAnyH_done (by kernel_rfl) ?_ _
      go_wp2
      obtain ⟨W0, hW0⟩ : ∃ W0, W0 = wr.drew.drew := ⟨_, rfl⟩
      rw [← hW0]
      have b0 : W0.cell? ⟨w.heap.size, 0, none⟩ = some (.int .i64 c) := by rw [hW0]; exact p1
      have b1 : W0.cell? ⟨w.heap.size, 1, none⟩ = some (.int .i64 d) := by rw [hW0]; exact q1
      have hW : Below w.heap.size w W0 := by rw [hW0]; exact ⟨hBw.os, hBw.tape, hBw.output, hBw.size, hBw.block⟩
      have hWz := hW.size
      have hbz : w.heap.size < W0.heap.size := by rw [hW0]; simp; omega
      have HS1 := Lib.hid (src_take (xs := xs) (k := k) (HS.out.later hW) (by omega))
      have HS2 := Lib.hid (fun c' => src_drop (xs := xs) (k := k) (c' := c') (HS.out.later hW) (by omega))
      have HU2 := Lib.hid (fun c' => src_drop_if (xs := xs) (k := k) (c' := c') (HS.out.later hW) (by omega) hlc)
      have HT2 := Lib.hid (fun (c' : Nat) (e : cap = k) => show SrcP W0 (.slice (some ⟨g, 0, none⟩) (xs.length - k) c') (xs.drop k) by have := src_drop_if (xs := xs) (k := k) (c' := c') (HS.out.later hW) (by omega) hlc; rwa [if_pos e] at this)
      clear hW0
      refine wp_region_held_drew (S := fun w' => Below W0.heap.size W0 w' ∧ w'.cell? ⟨w.heap.size, 0, none⟩ = some (.int .i64 c) ∧ w'.cell? ⟨w.heap.size, 1, none⟩ = some (.int .i64 d)) (by kernel_rfl) (by (try dsimp only); exact keepS b0 b1 (by go_grown)) (fun hHeld => ?_)
      refine wpAnyH_take (i := 1) (v := ?v46) rfl (by kernel_rfl) (by kernel_rfl) (by kernel_rfl) (fun _ _ _ h => h) (Or.inl ⟨by rfl, ?hy46⟩) (by assumption) ?rest46
      case hy46 => (intro w hSw; (try dsimp only at hSw); go_simp; (try with_reducible rfl))
      simp only [Act.put, List.getElem_toArray, List.getElem_cons_zero, List.getElem_cons_succ, List.setIfInBounds_toArray, List.set_cons_zero, List.set_cons_succ]
      refine wpAnyH_take (i := 2) (v := ?v47) rfl (by kernel_rfl) (by kernel_rfl) (by kernel_rfl) (fun _ _ _ h => h) (Or.inl ⟨by rfl, ?hy47⟩) (by assumption) ?rest47
      case hy47 => (intro w hSw; (try dsimp only at hSw); go_simp; (try with_reducible rfl))
      simp only [Act.put, List.getElem_toArray, List.getElem_cons_zero, List.getElem_cons_succ, List.setIfInBounds_toArray, List.set_cons_zero, List.set_cons_succ]
      refine wpAnyH_take (i := 3) (v := ?v48) rfl (by kernel_rfl) (by kernel_rfl) (by kernel_rfl) (fun _ _ _ h => h) (Or.inl ⟨by rfl, ?hy48⟩) (by assumption) ?rest48
      case hy48 => (intro w hSw; (try dsimp only at hSw); go_simp; (try with_reducible rfl))
      simp only [Act.put, List.getElem_toArray, List.getElem_cons_zero, List.getElem_cons_succ, List.setIfInBounds_toArray, List.set_cons_zero, List.set_cons_succ]
      refine wpAnyH_take (i := 5) (v := ?v49) rfl (by kernel_rfl) (by kernel_rfl) (by kernel_rfl) (fun _ _ _ h => h) (Or.inl ⟨by rfl, ?hy49⟩) (by assumption) ?rest49
      case hy49 => (intro w hSw; (try dsimp only at hSw); go_simp; (try with_reducible rfl))
      simp only [Act.put, List.getElem_toArray, List.getElem_cons_zero, List.getElem_cons_succ, List.setIfInBounds_toArray, List.set_cons_zero, List.set_cons_succ]
      refine wpAnyH_ready (rs := [0, 6]) (by kernel_rfl) (by simp) ?_
      refine AllReadyH.cons rfl (fun K hK => ?_) (AllReadyH.cons rfl (fun K hK => ?_) AllReadyH.nil)
      · skip
        simp only [List.getElem_toArray, List.getElem_cons_zero]
        go_simp
        refine hK.out _ _ (by (try dsimp only); exact keepS b0 b1 (by go_grown)) (fun hHeld => ?_)
        clear hK K
        have hI0 := Lib.hid (Pairs.boxed W0.drew W0.heap.size 61 [] (Nat.le_refl _) (by simp))
        refine wpAnyH_ready (rs := [4, 6]) (by kernel_rfl) (by simp) ?_
        refine AllReadyH.cons rfl (fun K hK => ?_) (AllReadyH.cons rfl (fun K hK => ?_) AllReadyH.nil)
        · skip
          simp only [List.getElem_toArray, List.getElem_cons_zero, List.getElem_cons_succ]
          rw [if_pos (by rfl)]; refine wp_append_pairs (.tmp 34) (.tmp 37) 31 rfl W0.heap.size 61 Try.underlying31 info_chord (.slice (some ⟨W0.heap.size, 0, none⟩) 0 0) (.slice (some ⟨g, 0, none⟩) k cap) [] (xs.take k) rfl rfl hI0.out (HS1.out.later hHeld.1) (by simp; omega) hHeld.1.size ?_; intro v2 w2 hI2 hg2 ho2
          refine hK.out _ _ (by (try dsimp only); exact keepS b0 b1 (Pairs.below hI0.out hHeld.1 hHeld.1.size hg2)) (fun hHeld => ?_)
          clear hK K
          simp only [Act.put, List.setIfInBounds_toArray, List.set_cons_zero, List.set_cons_succ]
          have hb2' := hHeld.1
          refine wpAnyH_ready (rs := [6]) (by kernel_rfl) (by simp) ?_
          refine AllReadyH.cons rfl (fun K hK => ?_) AllReadyH.nil
          simp only [List.getElem_toArray, List.getElem_cons_zero, List.getElem_cons_succ]
          go_simp
          refine hK.out _ _ (by (try dsimp only); exact keepS b0 b1 (hb2'.alloc hb2'.size _)) (fun hHeld => ?_)
          clear hK K
          have hC := Pairs.boxed w2 W0.heap.size 61 [(c, d)] (by have := hb2'.size; omega) (by simp)
          refine wpAnyH_ready (rs := [7]) (by kernel_rfl) (by simp) ?_
          refine AllReadyH.cons rfl (fun K hK => ?_) AllReadyH.nil
          simp only [List.getElem_toArray, List.getElem_cons_zero, List.getElem_cons_succ]
          rw [if_pos (by rfl)]; refine wp_append_pairs (.tmp 38) (.tmp 40) 31 rfl W0.heap.size 61 Try.underlying31 info_chord v2 (.slice (some ⟨w2.heap.size, 0, none⟩) 1 1) ([] ++ xs.take k) [(c, d)] rfl rfl (hI2.later ((Below.refl _ _).alloc (Nat.le_refl _) _)) (Pairs.src hC) (by simp; omega) hHeld.1.size ?_; intro v3 w3 hI3 hg3 ho3
          refine hK.out _ _ (by (try dsimp only); exact keepS b0 b1 (Pairs.below (hI2.later ((Below.refl _ _).alloc (Nat.le_refl _) _)) hHeld.1 hHeld.1.size hg3)) (fun hHeld => ?_)
          clear hK K
          simp only [Act.put, List.setIfInBounds_toArray, List.set_cons_zero, List.set_cons_succ]
          refine wpAnyH_take (i := 8) (v := ?v50) rfl (by kernel_rfl) (by kernel_rfl) (by kernel_rfl) (fun _ _ _ h => h) (Or.inl ⟨by rfl, ?hy50⟩) (by assumption) ?rest50
          case hy50 => (intro w hSw; (try dsimp only at hSw); go_simp; (try with_reducible rfl))
          simp only [Act.put, List.getElem_toArray, List.getElem_cons_zero, List.getElem_cons_succ, List.setIfInBounds_toArray, List.set_cons_zero, List.set_cons_succ]
          refine wpAnyH_done (by kernel_rfl) ?_ _
          have HS3 := Lib.hid (fun c' => (HS2.out c').later hHeld.1)
          have HT3 := Lib.hid (fun c' e => (HT2.out c' e).later hHeld.1)
          have HU3 := Lib.hid (fun c' => (HU2.out c').later hHeld.1)
          have HN := Lib.hid hI3
          have HB := hHeld.1
          have hz3 := HB.size
          clear hHeld
          go_wp2_with (first | (at_builtin; refine wpList_append_pairs rfl _ _ 31 rfl W0.heap.size 61 Try.underlying31 info_chord v3 _ _ _ rfl rfl HN.out (HS3.out _) (by simp; omega) hz3 ?_; intro v4 w4 hI4 hg4 _; have H4 := Lib.hid hI4; have HB4 := Pairs.below HN.out HB hz3 hg4; clear hI4 hg4) | (at_builtin; refine wpList_append_pairs rfl _ _ 31 rfl W0.heap.size 61 Try.underlying31 info_chord v3 _ _ _ rfl rfl HN.out (HT3.out _ (by first | assumption | rfl)) (by simp; omega) hz3 ?_; intro v4 w4 hI4 hg4 _; have H4 := Lib.hid hI4; have HB4 := Pairs.below HN.out HB hz3 hg4; clear hI4 hg4) | (at_builtin; refine wpList_append_pairs rfl _ _ 31 rfl W0.heap.size 61 Try.underlying31 info_chord v3 _ _ _ rfl rfl HN.out (HS3.out _) (by simp; omega) hz3 ?_; intro v4 w4 hI4 hg4 _; have H4 := Lib.hid hI4; have HB4 := Pairs.below HN.out HB hz3 hg4; clear hI4 hg4) | (at_builtin; refine wpList_append_pairs rfl _ _ 31 rfl W0.heap.size 61 Try.underlying31 info_chord v3 _ _ _ rfl rfl HN.out (HU3.out _) (by simp; omega) hz3 ?_; intro v4 w4 hI4 hg4 _; have H4 := Lib.hid hI4; have HB4 := Pairs.below HN.out HB hz3 hg4; clear hI4 hg4))
          all_goals
            go_ret
            exact ⟨_, rfl, ⟨by first | exact H4.out.mono hWz | (have hh := H4.out.mono hWz; rw [List.nil_append, List.append_assoc, List.singleton_append] at hh; exact hh), fun b hb => (H4.out.own b hb).2⟩, hW.trans (HB4.mono hWz)⟩
        · skip
          simp only [List.getElem_toArray, List.getElem_cons_zero, List.getElem_cons_succ]
          go_simp
          refine hK.out _ _ (by (try dsimp only); exact keepS b0 b1 (by go_grown)) (fun hHeld => ?_)
          clear hK K
          have hC := Pairs.boxedAt (W0.drew.alloc (.cells #[] 61)) W0.heap.size 61 [(c, d)] (W0.heap.size + 1) (by simp) (by omega) (by simp)
          have hI0' := hI0.out.later (w' := (W0.drew.alloc (.cells #[] 61)).alloc (.cells ((flatP [(c, d)]).map (Value.int .i64)).toArray 61)) ((Below.refl _ _).alloc (Nat.le_refl _) _)
          refine wpAnyH_ready (rs := [4]) (by kernel_rfl) (by simp) ?_
          refine AllReadyH.cons rfl (fun K hK => ?_) AllReadyH.nil
          simp only [List.getElem_toArray, List.getElem_cons_zero, List.getElem_cons_succ]
          rw [if_pos (by rfl)]; refine wp_append_pairs (.tmp 34) (.tmp 37) 31 rfl W0.heap.size 61 Try.underlying31 info_chord (.slice (some ⟨W0.heap.size, 0, none⟩) 0 0) (.slice (some ⟨g, 0, none⟩) k cap) [] (xs.take k) rfl rfl hI0' (HS1.out.later hHeld.1) (by simp; omega) hHeld.1.size ?_; intro v2 w2 hI2 hg2 ho2
          refine hK.out _ _ (by (try dsimp only); exact keepS b0 b1 (Pairs.below hI0' hHeld.1 hHeld.1.size hg2)) (fun hHeld => ?_)
          clear hK K
          simp only [Act.put, List.setIfInBounds_toArray, List.set_cons_zero, List.set_cons_succ]
          have hC2 := Pairs.keptBut hC hg2 (.inr (by simp [Value.ownBlock]))
          refine wpAnyH_ready (rs := [7]) (by kernel_rfl) (by simp) ?_
          refine AllReadyH.cons rfl (fun K hK => ?_) AllReadyH.nil
          simp only [List.getElem_toArray, List.getElem_cons_zero, List.getElem_cons_succ]
          rw [if_pos (by rfl)]; refine wp_append_pairs (.tmp 38) (.tmp 40) 31 rfl W0.heap.size 61 Try.underlying31 info_chord v2 (.slice (some ⟨(W0.heap.size + 1), 0, none⟩) 1 1) ([] ++ xs.take k) [(c, d)] rfl rfl hI2 (Pairs.src hC2) (by simp; omega) hHeld.1.size ?_; intro v3 w3 hI3 hg3 ho3
          refine hK.out _ _ (by (try dsimp only); exact keepS b0 b1 (Pairs.below hI2 hHeld.1 hHeld.1.size hg3)) (fun hHeld => ?_)
          clear hK K
          simp only [Act.put, List.setIfInBounds_toArray, List.set_cons_zero, List.set_cons_succ]
          refine wpAnyH_take (i := 8) (v := ?v51) rfl (by kernel_rfl) (by kernel_rfl) (by kernel_rfl) (fun _ _ _ h => h) (Or.inl ⟨by rfl, ?hy51⟩) (by assumption) ?rest51
          case hy51 => (intro w hSw; (try dsimp only at hSw); go_simp; (try with_reducible rfl))
          simp only [Act.put, List.getElem_toArray, List.getElem_cons_zero, List.getElem_cons_succ, List.setIfInBounds_toArray, List.set_cons_zero, List.set_cons_succ]
          refine wpAnyH_done (by kernel_rfl) ?_ _
          have HS3 := Lib.hid (fun c' => (HS2.out c').later hHeld.1)
          have HT3 := Lib.hid (fun c' e => (HT2.out c' e).later hHeld.1)
          have HU3 := Lib.hid (fun c' => (HU2.out c').later hHeld.1)
          have HN := Lib.hid hI3
          have HB := hHeld.1
          have hz3 := HB.size
          clear hHeld
          go_wp2_with (first | (at_builtin; refine wpList_append_pairs rfl _ _ 31 rfl W0.heap.size 61 Try.underlying31 info_chord v3 _ _ _ rfl rfl HN.out (HS3.out _) (by simp; omega) hz3 ?_; intro v4 w4 hI4 hg4 _; have H4 := Lib.hid hI4; have HB4 := Pairs.below HN.out HB hz3 hg4; clear hI4 hg4) | (at_builtin; refine wpList_append_pairs rfl _ _ 31 rfl W0.heap.size 61 Try.underlying31 info_chord v3 _ _ _ rfl rfl HN.out (HT3.out _ (by first | assumption | rfl)) (by simp; omega) hz3 ?_; intro v4 w4 hI4 hg4 _; have H4 := Lib.hid hI4; have HB4 := Pairs.below HN.out HB hz3 hg4; clear hI4 hg4) | (at_builtin; refine wpList_append_pairs rfl _ _ 31 rfl W0.heap.size 61 Try.underlying31 info_chord v3 _ _ _ rfl rfl HN.out (HS3.out _) (by simp; omega) hz3 ?_; intro v4 w4 hI4 hg4 _; have H4 := Lib.hid hI4; have HB4 := Pairs.below HN.out HB hz3 hg4; clear hI4 hg4) | (at_builtin; refine wpList_append_pairs rfl _ _ 31 rfl W0.heap.size 61 Try.underlying31 info_chord v3 _ _ _ rfl rfl HN.out (HU3.out _) (by simp; omega) hz3 ?_; intro v4 w4 hI4 hg4 _; have H4 := Lib.hid hI4; have HB4 := Pairs.below HN.out HB hz3 hg4; clear hI4 hg4))
          all_goals
            go_ret
            exact ⟨_, rfl, ⟨by first | exact H4.out.mono hWz | (have hh := H4.out.mono hWz; rw [List.nil_append, List.append_assoc, List.singleton_append] at hh; exact hh), fun b hb => (H4.out.own b hb).2⟩, hW.trans (HB4.mono hWz)⟩
      · skip
        simp only [List.getElem_toArray, List.getElem_cons_zero, List.getElem_cons_succ]
        go_simp
        refine hK.out _ _ (by (try dsimp only); exact keepS b0 b1 (by go_grown)) (fun hHeld => ?_)
        clear hK K
        have hC := Pairs.boxed W0.drew W0.heap.size 61 [(c, d)] (by simp) (by simp)
        refine wpAnyH_ready (rs := [0]) (by kernel_rfl) (by simp) ?_
        refine AllReadyH.cons rfl (fun K hK => ?_) AllReadyH.nil
        simp only [List.getElem_toArray, List.getElem_cons_zero]
        go_simp
        refine hK.out _ _ (by (try dsimp only); exact keepS b0 b1 (by go_grown)) (fun hHeld => ?_)
        clear hK K
        have hI0' := Pairs.boxedAt (W0.drew.alloc (.cells ((flatP [(c, d)]).map (Value.int .i64)).toArray 61)) W0.heap.size 61 [] (W0.heap.size + 1) (by simp) (by omega) (by simp)
        have hC1 := hC.later (w' := (W0.drew.alloc (.cells ((flatP [(c, d)]).map (Value.int .i64)).toArray 61)).alloc (.cells #[] 61)) ((Below.refl _ _).alloc (Nat.le_refl _) _)
        refine wpAnyH_ready (rs := [4]) (by kernel_rfl) (by simp) ?_
        refine AllReadyH.cons rfl (fun K hK => ?_) AllReadyH.nil
        simp only [List.getElem_toArray, List.getElem_cons_zero, List.getElem_cons_succ]
        rw [if_pos (by rfl)]; refine wp_append_pairs (.tmp 34) (.tmp 37) 31 rfl W0.heap.size 61 Try.underlying31 info_chord (.slice (some ⟨(W0.heap.size + 1), 0, none⟩) 0 0) (.slice (some ⟨g, 0, none⟩) k cap) [] (xs.take k) rfl rfl hI0' (HS1.out.later hHeld.1) (by simp; omega) hHeld.1.size ?_; intro v2 w2 hI2 hg2 ho2
        refine hK.out _ _ (by (try dsimp only); exact keepS b0 b1 (Pairs.below hI0' hHeld.1 hHeld.1.size hg2)) (fun hHeld => ?_)
        clear hK K
        simp only [Act.put, List.setIfInBounds_toArray, List.set_cons_zero, List.set_cons_succ]
        have hC2 := Pairs.keptBut hC1 hg2 (.inr (by simp [Value.ownBlock]))
        refine wpAnyH_ready (rs := [7]) (by kernel_rfl) (by simp) ?_
        refine AllReadyH.cons rfl (fun K hK => ?_) AllReadyH.nil
        simp only [List.getElem_toArray, List.getElem_cons_zero, List.getElem_cons_succ]
        rw [if_pos (by rfl)]; refine wp_append_pairs (.tmp 38) (.tmp 40) 31 rfl W0.heap.size 61 Try.underlying31 info_chord v2 (.slice (some ⟨W0.heap.size, 0, none⟩) 1 1) ([] ++ xs.take k) [(c, d)] rfl rfl hI2 (Pairs.src hC2) (by simp; omega) hHeld.1.size ?_; intro v3 w3 hI3 hg3 ho3
        refine hK.out _ _ (by (try dsimp only); exact keepS b0 b1 (Pairs.below hI2 hHeld.1 hHeld.1.size hg3)) (fun hHeld => ?_)
        clear hK K
        simp only [Act.put, List.setIfInBounds_toArray, List.set_cons_zero, List.set_cons_succ]
        refine wpAnyH_take (i := 8) (v := ?v52) rfl (by kernel_rfl) (by kernel_rfl) (by kernel_rfl) (fun _ _ _ h => h) (Or.inl ⟨by rfl, ?hy52⟩) (by assumption) ?rest52
        case hy52 => (intro w hSw; (try dsimp only at hSw); go_simp; (try with_reducible rfl))
        simp only [Act.put, List.getElem_toArray, List.getElem_cons_zero, List.getElem_cons_succ, List.setIfInBounds_toArray, List.set_cons_zero, List.set_cons_succ]
        refine wpAnyH_done (by kernel_rfl) ?_ _
        have HS3 := Lib.hid (fun c' => (HS2.out c').later hHeld.1)
        have HT3 := Lib.hid (fun c' e => (HT2.out c' e).later hHeld.1)
        have HU3 := Lib.hid (fun c' => (HU2.out c').later hHeld.1)
        have HN := Lib.hid hI3
        have HB := hHeld.1
        have hz3 := HB.size
        clear hHeld
        go_wp2_with (first | (at_builtin; refine wpList_append_pairs rfl _ _ 31 rfl W0.heap.size 61 Try.underlying31 info_chord v3 _ _ _ rfl rfl HN.out (HS3.out _) (by simp; omega) hz3 ?_; intro v4 w4 hI4 hg4 _; have H4 := Lib.hid hI4; have HB4 := Pairs.below HN.out HB hz3 hg4; clear hI4 hg4) | (at_builtin; refine wpList_append_pairs rfl _ _ 31 rfl W0.heap.size 61 Try.underlying31 info_chord v3 _ _ _ rfl rfl HN.out (HT3.out _ (by first | assumption | rfl)) (by simp; omega) hz3 ?_; intro v4 w4 hI4 hg4 _; have H4 := Lib.hid hI4; have HB4 := Pairs.below HN.out HB hz3 hg4; clear hI4 hg4) | (at_builtin; refine wpList_append_pairs rfl _ _ 31 rfl W0.heap.size 61 Try.underlying31 info_chord v3 _ _ _ rfl rfl HN.out (HS3.out _) (by simp; omega) hz3 ?_; intro v4 w4 hI4 hg4 _; have H4 := Lib.hid hI4; have HB4 := Pairs.below HN.out HB hz3 hg4; clear hI4 hg4) | (at_builtin; refine wpList_append_pairs rfl _ _ 31 rfl W0.heap.size 61 Try.underlying31 info_chord v3 _ _ _ rfl rfl HN.out (HU3.out _) (by simp; omega) hz3 ?_; intro v4 w4 hI4 hg4 _; have H4 := Lib.hid hI4; have HB4 := Pairs.below HN.out HB hz3 hg4; clear hI4 hg4))
        all_goals
          go_ret
          exact ⟨_, rfl, ⟨by first | exact H4.out.mono hWz | (have hh := H4.out.mono hWz; rw [List.nil_append, List.append_assoc, List.singleton_append] at hh; exact hh), fun b hb => (H4.out.own b hb).2⟩, hW.trans (HB4.mono hWz)⟩
end Go.Proofs.Ytlkehdjfmmghjab
