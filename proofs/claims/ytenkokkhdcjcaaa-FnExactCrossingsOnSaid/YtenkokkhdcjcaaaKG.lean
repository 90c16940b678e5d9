/- A chord is added: the model; the law. -/
import Derived.Test.YtenkokkhdcjcaaaKF
namespace Go.Proofs.Ytenkokkhdcjcaaa
open Go.RowKit
set_option linter.unusedVariables false

theorem srPut_new (u : Value) (xs : List (Int × Int)) (c d : Int) (B T : Nat) (w : World) (h : PairsIn 50 w B T u xs) (hT : T ≤ w.heap.size) (hn : xs.length ≤ 1000000) (ht : thereAt xs c d = false) :
    Calls Try.prog 65 #[u, .agg #[.int .i64 c, .int .i64 d]] w fun e w' => ∃ v', e = .returned v' ∧ PairsIn 50 w' w.heap.size w'.heap.size v' (putAt xs c d) ∧ Below w.heap.size w w' := by
  rcases src_form h.1 with ⟨rfl, rfl⟩ | ⟨g, cap, rfl, _, hlc, hcm⟩
  · exact srPut_nil c d w
  · refine srPut_some g cap xs c d B T w h hT hn hlc hcm fun e => ?_
    unfold thereAt at ht
    rw [decide_eq_true e] at ht
    cases ht

theorem there_at {p : Int} {xs : List (Int × Int)} (hg : goodC p xs) (c d : Int) (k : Nat) (hk : k < xs.length) (h : xs.getD k (0, 0) = (c, d)) : thereAt xs c d = true := by
  have hh : headC (c, d) xs = k := by
    refine headC_unique (c, d) xs k (by omega) (fun i hi => ?_) (fun _ => ?_)
    · rw [← h]; exact good_less hg i k hi hk
    · rw [h]
      cases e : lessC (c, d) (c, d) with
      | false => rfl
      | true => exact absurd e (lessC_irrefl _)
  unfold thereAt
  rw [hh]
  exact decide_eq_true ⟨hk, h⟩

theorem not_there {p : Int} {xs : List (Int × Int)} (hg : goodC p xs) (c d : Int) (ht : thereAt xs c d = false) (k : Nat) (hk : k < xs.length) : xs.getD k (0, 0) ≠ (c, d) := fun h => by
  rw [there_at hg c d k hk h] at ht
  cases ht

set_option maxHeartbeats 1000000 in
theorem sAddChord_new (p : Int) (u : Value) (xs : List (Int × Int)) (c d : Int) (B T : Nat) (w : World) (h : PairsIn 50 w B T u xs) (hT : T ≤ w.heap.size) (hg : goodC p xs) (hc : 0 ≤ c ∧ c < d ∧ d < p) (hl : xs.length < 40) (ht : thereAt xs c d = false) :
    Calls Try.prog 40 #[.int .i64 p, u, .agg #[.int .i64 c, .int .i64 d]] w (Gives (PairsIn 50) w (putAt xs c d) true) := by
  have hp60 := hg.1.2
  have HH := Lib.hid h
  have HG := Lib.hid hg
  have HC := Lib.hid hc
  have HTH := Lib.hid ht
  obtain ⟨m, hm⟩ : ∃ m, m = xs.length := ⟨_, rfl⟩
  have hmle : m ≤ xs.length := by rw [hm]; exact Nat.le_refl _
  have HM := Lib.hid hm
  have HN := Lib.hid (show ∀ k, k < m → xs.getD k (0, 0) ≠ (c, d) by
    intro k hk
    exact not_there hg c d ht k (by omega))
  clear hm
  obtain ⟨a1, c1, g1, rfl, ha1, hmm, hx1, hy1⟩ := h.pairs.view
  have hne : ((xs.length : Int) == 40) = false := beq_eq_false_iff_ne.2 (by omega)
  have X := Lib.hid hx1
  have Y := Lib.hid hy1
  have HA := Lib.hid ha1
  clear h hg hc ht ha1 hx1 hy1 hmm
  go_enter Try.func40, Try.ntmps40
  go_wp2_with (first | (go_at_call 52; (with_reducible refine (cdGood_yes p _ xs B T _ (HH.out.keep (belowSame (by go_grown) hT)) HG.out).mono ?_); rintro e w1 ⟨rfl, hb1⟩; (have d0 := cellB hb1 (b := w.heap.size) (o := 0) (x := .int .i64 c) (by go_simp)); (have d1 := cellB hb1 (b := w.heap.size) (o := 1) (x := .int .i64 d) (by go_simp)); (have hB1 : Below w.heap.size w w1 := Below.trans (by go_grown) (hb1.mono (by simp))); have hz1 := hb1.size) | (go_at_call 64; (with_reducible refine (srIs_yes p c d _ hp60 HC.out).mono ?_); rintro e w2 ⟨rfl, hb2⟩; (have e0 := cellB hb2 d0); (have e1 := cellB hb2 d1); (have hB2 : Below w.heap.size w w2 := hB1.trans (hb2.mono (by simp at hz1; omega))); have hz2 := hb2.size))
  go_loopw [27] (fun i wr => ∃ k : Nat, k ≤ m ∧ i = .int .i64 k ∧ Below w.heap.size w wr ∧ wr.cell? ⟨w.heap.size, 0, none⟩ = some (.int .i64 c) ∧ wr.cell? ⟨w.heap.size, 1, none⟩ = some (.int .i64 d) ∧ w.heap.size < wr.heap.size) (fun i _ => m - (intOf i).toNat)
  case atStart => exact ⟨0, by omega, rfl, hB2, e0, e1, by simp at hz1; omega⟩
  case round =>
    obtain ⟨k, hk, rfl, hB, p0, p1, hz⟩ := hrel
    by_cases hkm : k < m
    · obtain rfl := HA.out (by omega)
      obtain ⟨x, y, hxy⟩ : ∃ x y, xs.getD k (0, 0) = (x, y) := ⟨_, _, rfl⟩
      have cx : wr.cell? ⟨g1, k * 2, none⟩ = _ := (hB.cell (p := ⟨g1, k * 2, none⟩) (World.block_lt_of_cell? w _ (X.out k (by omega)))).trans (X.out k (by omega))
      have cy : wr.cell? ⟨g1, k * 2 + 1, none⟩ = _ := (hB.cell (p := ⟨g1, k * 2 + 1, none⟩) (World.block_lt_of_cell? w _ (Y.out k (by omega)))).trans (Y.out k (by omega))
      have hnn := HN.out k hkm
      rw [hxy] at cx cy hnn
      simp only at cx cy
      have hi2 : (k : Int) < (xs.length : Int) := by omega
      have hnq : (c == x && d == y) = false := by
        cases e1 : (c == x) with
        | false => rfl
        | true =>
          cases e2 : (d == y) with
          | false => rfl
          | true => exact absurd (by rw [Prod.mk.injEq]; exact ⟨(eq_of_beq e1).symm, (eq_of_beq e2).symm⟩) hnn
      clear hnn hxy
      by_cases hcx : c = x
      · have hdy : (d == y) = false := by
          cases e : (d == y) with
          | false => rfl
          | true => rw [hcx, e] at hnq; simp at hnq
        subst hcx
        clear hnq
        go_wp2
        go_roundw
        case rel => exact ⟨k + 1, by omega, by go_num, by go_grown, by go_simp, by go_simp, by simp; omega⟩
        case measure => simp [intOf]; omega
      · have hcb : (c == x) = false := beq_eq_false_iff_ne.2 hcx
        clear hnq
        go_wp2
        go_roundw
        case rel => exact ⟨k + 1, by omega, by go_num, by go_grown, by go_simp, by go_simp, by simp; omega⟩
        case measure => simp [intOf]; omega
    · obtain rfl : k = m := by omega
      have hnl : ¬ (k : Int) < (xs.length : Int) := by have := HM.out; omega
      go_wp2_with (first | (go_at_call 65; (with_reducible refine (srPut_new _ xs c d B T _ (HH.out.keep (belowSame hB hT)) (by omega) (by omega) HTH.out).mono ?_); rintro e w4 ⟨v4, rfl, hI4, hb4⟩))
      go_ret2
      exact ⟨v4, rfl, hI4.wider hB.size (Nat.le_refl _), hB.trans (hb4.mono (by omega))⟩

set_option maxHeartbeats 1000000 in
theorem sAddChord_there (p : Int) (u : Value) (xs : List (Int × Int)) (c d : Int) (B T : Nat) (w : World) (h : PairsIn 50 w B T u xs) (hT : T ≤ w.heap.size) (hg : goodC p xs) (hc : 0 ≤ c ∧ c < d ∧ d < p) (hl : xs.length < 40) (ht : thereAt xs c d = true) :
    Calls Try.prog 40 #[.int .i64 p, u, .agg #[.int .i64 c, .int .i64 d]] w (Gives (PairsIn 50) w [] false) := by
  have hp60 := hg.1.2
  have HH := Lib.hid h
  have HG := Lib.hid hg
  have HC := Lib.hid hc
  have HTH := Lib.hid ht
  obtain ⟨m, hm⟩ : ∃ m, m = headC (c, d) xs := ⟨_, rfl⟩
  have hmle : m ≤ xs.length := by rw [hm]; exact headC_le _ _
  have HM := Lib.hid hm
  have HN := Lib.hid (show ∀ k, k < m → xs.getD k (0, 0) ≠ (c, d) by
    intro k hk
    have := headC_less (c, d) xs k (by omega); intro e; rw [e] at this; exact lessC_irrefl _ this)
  clear hm
  obtain ⟨a1, c1, g1, rfl, ha1, hmm, hx1, hy1⟩ := h.pairs.view
  have hne : ((xs.length : Int) == 40) = false := beq_eq_false_iff_ne.2 (by omega)
  have X := Lib.hid hx1
  have Y := Lib.hid hy1
  have HA := Lib.hid ha1
  clear h hg hc ht ha1 hx1 hy1 hmm
  go_enter Try.func40, Try.ntmps40
  go_wp2_with (first | (go_at_call 52; (with_reducible refine (cdGood_yes p _ xs B T _ (HH.out.keep (belowSame (by go_grown) hT)) HG.out).mono ?_); rintro e w1 ⟨rfl, hb1⟩; (have d0 := cellB hb1 (b := w.heap.size) (o := 0) (x := .int .i64 c) (by go_simp)); (have d1 := cellB hb1 (b := w.heap.size) (o := 1) (x := .int .i64 d) (by go_simp)); (have hB1 : Below w.heap.size w w1 := Below.trans (by go_grown) (hb1.mono (by simp))); have hz1 := hb1.size) | (go_at_call 64; (with_reducible refine (srIs_yes p c d _ hp60 HC.out).mono ?_); rintro e w2 ⟨rfl, hb2⟩; (have e0 := cellB hb2 d0); (have e1 := cellB hb2 d1); (have hB2 : Below w.heap.size w w2 := hB1.trans (hb2.mono (by simp at hz1; omega))); have hz2 := hb2.size))
  go_loopw [27] (fun i wr => ∃ k : Nat, k ≤ m ∧ i = .int .i64 k ∧ Below w.heap.size w wr ∧ wr.cell? ⟨w.heap.size, 0, none⟩ = some (.int .i64 c) ∧ wr.cell? ⟨w.heap.size, 1, none⟩ = some (.int .i64 d) ∧ w.heap.size < wr.heap.size) (fun i _ => m - (intOf i).toNat)
  case atStart => exact ⟨0, by omega, rfl, hB2, e0, e1, by simp at hz1; omega⟩
  case round =>
    obtain ⟨k, hk, rfl, hB, p0, p1, hz⟩ := hrel
    by_cases hkm : k < m
    · obtain rfl := HA.out (by omega)
      obtain ⟨x, y, hxy⟩ : ∃ x y, xs.getD k (0, 0) = (x, y) := ⟨_, _, rfl⟩
      have cx : wr.cell? ⟨g1, k * 2, none⟩ = _ := (hB.cell (p := ⟨g1, k * 2, none⟩) (World.block_lt_of_cell? w _ (X.out k (by omega)))).trans (X.out k (by omega))
      have cy : wr.cell? ⟨g1, k * 2 + 1, none⟩ = _ := (hB.cell (p := ⟨g1, k * 2 + 1, none⟩) (World.block_lt_of_cell? w _ (Y.out k (by omega)))).trans (Y.out k (by omega))
      have hnn := HN.out k hkm
      rw [hxy] at cx cy hnn
      simp only at cx cy
      have hi2 : (k : Int) < (xs.length : Int) := by omega
      have hnq : (c == x && d == y) = false := by
        cases e1 : (c == x) with
        | false => rfl
        | true =>
          cases e2 : (d == y) with
          | false => rfl
          | true => exact absurd (by rw [Prod.mk.injEq]; exact ⟨(eq_of_beq e1).symm, (eq_of_beq e2).symm⟩) hnn
      clear hnn hxy
      by_cases hcx : c = x
      · have hdy : (d == y) = false := by
          cases e : (d == y) with
          | false => rfl
          | true => rw [hcx, e] at hnq; simp at hnq
        subst hcx
        clear hnq
        go_wp2
        go_roundw
        case rel => exact ⟨k + 1, by omega, by go_num, by go_grown, by go_simp, by go_simp, by simp; omega⟩
        case measure => simp [intOf]; omega
      · have hcb : (c == x) = false := beq_eq_false_iff_ne.2 hcx
        clear hnq
        go_wp2
        go_roundw
        case rel => exact ⟨k + 1, by omega, by go_num, by go_grown, by go_simp, by go_simp, by simp; omega⟩
        case measure => simp [intOf]; omega
    · obtain rfl : k = m := by omega
      have hth := HTH.out
      unfold thereAt at hth
      rw [decide_eq_true_eq, ← HM.out] at hth
      obtain ⟨hkl, hxy⟩ := hth
      obtain rfl := HA.out (by omega)
      have cx : wr.cell? ⟨g1, k * 2, none⟩ = _ := (hB.cell (p := ⟨g1, k * 2, none⟩) (World.block_lt_of_cell? w _ (X.out k (by omega)))).trans (X.out k (by omega))
      have cy : wr.cell? ⟨g1, k * 2 + 1, none⟩ = _ := (hB.cell (p := ⟨g1, k * 2 + 1, none⟩) (World.block_lt_of_cell? w _ (Y.out k (by omega)))).trans (Y.out k (by omega))
      rw [hxy] at cx cy
      simp only at cx cy
      have hi2 : (k : Int) < (xs.length : Int) := by omega
      clear hxy hkm
      go_wp2
      go_ret2
      exact ⟨_, rfl, PairsIn.nil _ _ _ _, by go_grown⟩

end Go.Proofs.Ytenkokkhdcjcaaa
