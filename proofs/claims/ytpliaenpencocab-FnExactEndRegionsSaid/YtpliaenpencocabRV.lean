/- Neighbours among the regions, by the program. -/
import Derived.Test.YtpliaenpencocabRU
import Derived.Test.YtpliaenpencocabRL
namespace Go.Proofs.Ytpliaenpencocab
open Go.RowKit
set_option linter.unusedVariables false

theorem nextsC_range (L : List (List Int)) (xs : List (Int × Int)) : (List.range xs.length).map (fun i => nextC L (xs.getD i (0, 0))) = nextsC L xs := by
  unfold nextsC
  apply List.ext_getElem?
  intro i
  by_cases h : i < xs.length
  · simp [List.getElem?_range h, List.getD, List.getElem?_eq_getElem h]
  · simp [h]

set_option maxHeartbeats 2000000 in
theorem neighbours_any (n : Nat) (a0 : Option Addr) (cap : Nat) (xs : List (Int × Int)) (B T : Nat) (w : World) (h : PairsIn 67 w B T (.slice a0 xs.length cap) xs) (hT : T ≤ w.heap.size) (hg : goodC n xs) (hpl : allP xs xs.length = []) :
    Calls Try.prog 45 #[.agg #[.int .i64 n, .slice a0 xs.length cap]] w fun e w' => ∃ v, e = .returned v ∧ RowsIn 46 3 w' w.heap.size w'.heap.size v (allN (regL n xs) (regL n xs).length) ∧ Below w.heap.size w w' := by
  have hsm := (regL_small hg hpl).2
  have hxl := hg.2.1
  have HRW := Lib.hid (regL_rows hg hpl)
  have HN := Lib.hid (fun (yss : List (List Int)) h1 h2 => nextL_is (yss := yss) hg hpl h1 h2)
  have hHR := Lib.hid (fun W hW1 hW2 => regions_gives n a0 cap xs B T W hW1 hW2 hg hpl)
  obtain ⟨L, hL⟩ : ∃ L, regL n xs = L := ⟨_, rfl⟩
  rw [hL] at hsm HRW HN hHR ⊢
  obtain ⟨M, hM⟩ : ∃ M, allN L L.length = M := ⟨_, rfl⟩
  rw [hM] at HN ⊢
  have HFA := Lib.hid (nextsC_range L xs)
  obtain ⟨f, hf⟩ : ∃ f : Nat → List Int, f = fun i => nextC L (xs.getD i (0, 0)) := ⟨_, rfl⟩
  rw [← hf] at HFA
  have HF := Lib.hid hf
  have hmk := make_rows (P := Try.prog) Try.underlying36 info_ints xs.length (by omega)
  obtain ⟨a1, c1, g1, hv, ha1, _, hx1, hy1⟩ := h.pairs.view
  obtain ⟨rfl, _, rfl⟩ : a0 = a1 ∧ xs.length = xs.length ∧ cap = c1 := by simpa using hv
  have X := Lib.hid hx1
  have Y := Lib.hid hy1
  have HA := Lib.hid ha1
  clear hL hM hx1 hy1 ha1 hv hf
  go_enter Try.func45, Try.ntmps45
  go_wp2_with (first | (go_at_call 69; (refine (hHR.out _ (h.keep (belowSame (by go_grown) hT)) (Nat.le_trans hT (by first | (simp; done) | (simp; omega)))).mono ?_); rintro e w1 ⟨v, rfl, hI, hb1⟩; (have hB1 : Below w.heap.size w w1 := Below.trans (by go_grown) (hb1.mono (by first | omega | (simp; done) | (simp; omega)))); have hz1 := hB1.size; (have hzz : w.heap.size < w1.heap.size := by have := hb1.size; simp at this; omega); (have k1 : w1.cell? ⟨w.heap.size, 1, none⟩ = some (.slice a0 xs.length cap) := cellB hb1 (by go_simp)); obtain ⟨vL, hR⟩ := hI; obtain ⟨ar, cr, gr, rfl, _⟩ := hR.view; have HR := Lib.hid (hR.lower (B' := w.heap.size) (by simp)); clear hR))
  go_loopw [16] (fun i wr => ∃ j : Nat, j ≤ xs.length ∧ i = .int .i64 j ∧ Hid (∃ vs, RowsAt 46 3 wr w1.heap.size wr.heap.size (.slice (some ⟨w1.heap.size, 0, none⟩) xs.length xs.length) vs (fillG f [] xs.length j)) ∧ Below w1.heap.size w1 wr) (fun i _ => xs.length - (intOf i).toNat)
  case atStart => exact ⟨0, by omega, rfl, Lib.hid ⟨_, by rw [fillG_zero]; have := RowsAt.made w1 w1.heap.size 46 3 xs.length (Nat.le_refl _) (by omega); simpa using this⟩, by go_grown⟩
  case round =>
    obtain ⟨j, hj, rfl, HI, hB⟩ := hrel
    have hz := hB.size
    by_cases hlt : j < xs.length
    · obtain rfl := HA.out (by omega)
      obtain ⟨x, y, hxy⟩ : ∃ x y, xs.getD j (0, 0) = (x, y) := ⟨_, _, rfl⟩
      have cx := cellB (hB1.trans (hB.mono hz1)) (X.out j hlt)
      have cy := cellB (hB1.trans (hB.mono hz1)) (Y.out j hlt)
      rw [hxy] at cx cy
      simp only at cx cy
      have hfj : f j = selT (fun k => bothR (x, y) (L.getD k [])) L.length := by
        rw [HF.out]
        show nextC L (xs.getD j (0, 0)) = _
        rw [hxy]
        rfl
      have HFJ := Lib.hid hfj
      have HSET := Lib.hid (fillG_set f [] xs.length j hlt)
      have hfl := Lib.hid (fillG_length f [] xs.length j hj)
      clear hxy hfj
      go_wp2_with (first | (go_at_call 70; go_loud ((refine (withBoth_any ar cr L x y w.heap.size w1.heap.size _ ⟨vL, HR.out.keep (belowSame (Below.trans hB (by go_grown)) (Nat.le_refl _))⟩ (by simp; omega) HRW.out hsm).mono ?_); rintro e w3 ⟨v3, rfl, hI3, hb3⟩; (have hw3 : Below wr.heap.size wr w3 := Below.trans (by go_grown) (hb3.mono (by simp))); have hz3 := hw3.size; (obtain ⟨vs, hR0⟩ := HI.out); have hR3 := hR0.keep (belowSame hw3 (Nat.le_refl _)); (obtain ⟨q1, q2, q3, hv3⟩ := own_form hI3); subst hv3; (have hP := hR3.put (by decide) (by rw [hfl.out]; exact hlt) ⟨hI3.mono (B' := wr.heap.size) (by simp), fun q hq => (hI3.own q hq).2⟩ (by omega) hz3); (rw [← HFJ.out, HSET.out] at hP); (have hvl : vs.length = xs.length := by (have h9 := hR3.len; rw [hfl.out] at h9; exact h9)); (have ho := hR3.outer); (rw [hvl] at ho); (have s2 := (World.ownsRow.stored ho j (.slice q1 q2 q3)).2); (obtain ⟨b1, b2, b3, hvv, hb1', _, hbc, hbf⟩ := hR3.view); (have hb3c := hbc j (by rw [hfl.out]; exact hlt)); (have hb3f := hbf j (by rw [hfl.out]; omega)); (have hg3 : b1 = some ⟨w1.heap.size, 0, none⟩ := by (have := hvv; simp at this; exact this.1.symm)); (obtain rfl : b3 = w1.heap.size := by have := hb1' (by rw [hfl.out]; omega); rw [hg3] at this; simpa using this.symm); (have HP := Lib.hid hP); (have HB3 := Lib.hid (Below.grown (hB.trans (hw3.mono hz)) s2 (by omega) (fun q hq => by simp at hq; omega))); clear hP s2 ho hR0 hR3 hI3 hvv hb1' hbc hbf hg3 hb3)))
      go_roundw
      case rel => exact ⟨j + 1, by omega, by go_num, Lib.hid ⟨_, by simpa using HP.out⟩, HB3.out⟩
      case measure => simp [intOf]; omega
    · obtain rfl : j = xs.length := by omega
      rw [fillG_all, HFA.out] at HI
      have hnl : (nextsC L xs).length = xs.length := by simp [nextsC]
      obtain ⟨Q, hQ⟩ : ∃ Q, nextsC L xs = Q := ⟨_, rfl⟩
      rw [hQ] at HI hnl HN
      obtain ⟨vs, hR0⟩ := HI.out
      have HR0 := Lib.hid hR0
      have hB2 := hB1.trans (hB.mono hz1)
      clear hR0 HI hQ
      by_cases h0 : 0 < xs.length
      · have HQ := Lib.hid hnl
        clear hnl
        go_wp2_with (first | (go_at_call 71; (refine (sortRows _ vs Q w1.heap.size wr.heap.size _ HR0.out (Nat.le_refl _) (by have := HQ.out; omega) (by have := HQ.out; omega)).mono ?_); rintro e w4 ⟨rfl, vs', yss, hY, hp, hs, hgr⟩))
        go_ret
        refine ⟨_, rfl, ⟨vs', ?_⟩, Below.grown hB2 hgr (by omega) (fun q hq => by simp [Value.ownBlock] at hq; omega)⟩
        rw [← HN.out yss hp hs]
        exact hY.lower hz1
      · have hQ0 : Q = [] := List.eq_nil_of_length_eq_zero (by omega)
        have hM0 : M = [] := by
          have := HN.out [] (by rw [hQ0]) (by simp [SortedL])
          exact this.symm
        subst hQ0
        subst hM0
        have hv0 : vs = [] := List.eq_nil_of_length_eq_zero HR0.out.len
        subst hv0
        obtain ⟨m0, hm0⟩ : ∃ m0, xs.length = m0 := ⟨_, rfl⟩
        obtain rfl : m0 = 0 := by omega
        rw [hm0] at HR0 ⊢
        clear hnl hlt hj
        go_wp2_with (first | (go_at_call 71; (refine (sortNone w1.heap.size 0 w1.heap.size wr.heap.size _ HR0.out (Nat.le_refl _)).mono ?_); rintro e w4 ⟨rfl, hY, hgr⟩))
        go_ret
        exact ⟨_, rfl, ⟨[], hY.lower hz1⟩, Below.grown hB2 hgr (by omega) (fun q hq => by simp at hq; omega)⟩
end Go.Proofs.Ytpliaenpencocab
