/- A chord is added: the model; the law. -/
import Derived.Test.YtngonpiiehmlaaaUR
namespace Go.Proofs.Ytngonpiiehmlaaa
open Go.RowKit
set_option linter.unusedVariables false

theorem there_at {xs : List (Int × Int)} (hg : goodT xs) (c d : Int) (k : Nat) (hk : k < xs.length) (h : xs.getD k (0, 0) = (c, d)) : thereAt xs c d = true := by
  have hh : headC (c, d) xs = k := by
    refine headC_unique (c, d) xs k (by omega) (fun i hi => ?_) (fun _ => ?_)
    · rw [← h]; exact good_less hg i k hi hk
    · rw [h]
      cases e : lessC (c, d) (c, d) with
      | false => rfl
      | true => exact absurd e (lessC_irrefl _)
  unfold thereAt
  rw [hh]
  exact decide_eq_true ⟨hk, h⟩

theorem not_there {xs : List (Int × Int)} (hg : goodT xs) (c d : Int) (ht : thereAt xs c d = false) (k : Nat) (hk : k < xs.length) : xs.getD k (0, 0) ≠ (c, d) := fun h => by
  rw [there_at hg c d k hk h] at ht
  cases ht

set_option maxHeartbeats 1000000 in
theorem sAddThread_new (u : Value) (xs : List (Int × Int)) (c d : Int) (B T : Nat) (w : World) (h : PairsIn 37 w B T u xs) (hT : T ≤ w.heap.size) (hg : goodT xs) (hc : isT c d) (hl : xs.length < 30) (ht : thereAt xs c d = false) :
    Calls Try.prog 44 #[u, .agg #[.int .i64 c, .int .i64 d]] w (Gives (PairsIn 37) w (putAt xs c d) true) := by
  have hp60 := hg.1.2
  have HH := Lib.hid h
  have HG := Lib.hid hg
  have HC := Lib.hid hc
  have HTH := Lib.hid ht
  obtain ⟨m, hm⟩ : ∃ m, m = xs.length := ⟨_, rfl⟩
  have hmle : m ≤ xs.length := by rw [hm]; exact Nat.le_refl _
  have HM := Lib.hid hm
  have HN := Lib.hid (show ∀ k, k < m → xs.getD k (0, 0) ≠ (c, d) by
    intro k hk
    exact not_there hg c d ht k (by omega))
  clear hm
  obtain ⟨a1, c1, g1, rfl, ha1, hmm, hx1, hy1⟩ := h.pairs.view
  have hne : ((xs.length : Int) == 30) = false := beq_eq_false_iff_ne.2 (by omega)
  have X := Lib.hid hx1
  have Y := Lib.hid hy1
  have HA := Lib.hid ha1
  clear h hg hc ht ha1 hx1 hy1 hmm
  go_enter Try.func44, Try.ntmps44
  go_wp2_with (first | (go_at_call 48; (with_reducible refine (sgGood_yes _ xs B T _ (HH.out.keep (belowSame (by go_grown) hT)) HG.out).mono ?_); rintro e w1 ⟨rfl, hb1⟩; (have d0 := cellB hb1 (b := w.heap.size) (o := 0) (x := .int .i64 c) (by go_simp)); (have d1 := cellB hb1 (b := w.heap.size) (o := 1) (x := .int .i64 d) (by go_simp)); (have hB1 : Below w.heap.size w w1 := Below.trans (by go_grown) (hb1.mono (by simp))); have hz1 := hb1.size) | (go_at_call 53; (with_reducible refine (sgThread_yes c d _ HC.out).mono ?_); rintro e w2 ⟨rfl, hb2⟩; (have e0 := cellB hb2 d0); (have e1 := cellB hb2 d1); (have hB2 : Below w.heap.size w w2 := hB1.trans (hb2.mono (by simp at hz1; omega))); have hz2 := hb2.size))
  go_loopw [23] (fun i wr => ∃ k : Nat, k ≤ m ∧ i = .int .i64 k ∧ Below w.heap.size w wr ∧ wr.cell? ⟨w.heap.size, 0, none⟩ = some (.int .i64 c) ∧ wr.cell? ⟨w.heap.size, 1, none⟩ = some (.int .i64 d) ∧ w.heap.size < wr.heap.size) (fun i _ => m - (intOf i).toNat)
  case atStart => exact ⟨0, by omega, rfl, hB2, e0, e1, by simp at hz1; omega⟩
  case round =>
    obtain ⟨k, hk, rfl, hB, p0, p1, hz⟩ := hrel
    by_cases hkm : k < m
    · obtain rfl := HA.out (by omega)
      obtain ⟨x, y, hxy⟩ : ∃ x y, xs.getD k (0, 0) = (x, y) := ⟨_, _, rfl⟩
      have cx : wr.cell? ⟨g1, k * 2, none⟩ = _ := (hB.cell (p := ⟨g1, k * 2, none⟩) (World.block_lt_of_cell? w _ (X.out k (by omega)))).trans (X.out k (by omega))
      have cy : wr.cell? ⟨g1, k * 2 + 1, none⟩ = _ := (hB.cell (p := ⟨g1, k * 2 + 1, none⟩) (World.block_lt_of_cell? w _ (Y.out k (by omega)))).trans (Y.out k (by omega))
      have hnn := HN.out k hkm
      rw [hxy] at cx cy hnn
      simp only at cx cy
      have hi2 : (k : Int) < (xs.length : Int) := by omega
      have hnq : (x == c && y == d) = false := by
        cases e1 : (x == c) with
        | false => rfl
        | true =>
          cases e2 : (y == d) with
          | false => rfl
          | true => exact absurd (by rw [Prod.mk.injEq]; exact ⟨eq_of_beq e1, eq_of_beq e2⟩) hnn
      clear hnn hxy
      by_cases hcx : c = x
      · have hdy : (y == d) = false := by
          cases e : (y == d) with
          | false => rfl
          | true => rw [hcx, e] at hnq; simp at hnq
        subst hcx
        clear hnq
        go_wp2
        go_roundw
        case rel => exact ⟨k + 1, by omega, by go_num, by go_grown, by go_simp, by go_simp, by simp; omega⟩
        case measure => simp [intOf]; omega
      · have hcb : (x == c) = false := beq_eq_false_iff_ne.2 (Ne.symm hcx)
        clear hnq
        go_wp2
        go_roundw
        case rel => exact ⟨k + 1, by omega, by go_num, by go_grown, by go_simp, by go_simp, by simp; omega⟩
        case measure => simp [intOf]; omega
    · obtain rfl : k = m := by omega
      have hnl : ¬ (k : Int) < (xs.length : Int) := by have := HM.out; omega
      go_wp2_with (first | (go_at_call 69; (with_reducible refine (sgPut_any _ xs c d B T _ (HH.out.keep (belowSame hB hT)) (by omega) (by omega)).mono ?_); rintro e w4 ⟨v4, rfl, hI4, hb4⟩))
      go_ret2
      exact ⟨v4, rfl, hI4.wider hB.size (Nat.le_refl _), hB.trans (hb4.mono (by omega))⟩

set_option maxHeartbeats 1000000 in
theorem sAddThread_there (u : Value) (xs : List (Int × Int)) (c d : Int) (B T : Nat) (w : World) (h : PairsIn 37 w B T u xs) (hT : T ≤ w.heap.size) (hg : goodT xs) (hc : isT c d) (hl : xs.length < 30) (ht : thereAt xs c d = true) :
    Calls Try.prog 44 #[u, .agg #[.int .i64 c, .int .i64 d]] w (Gives (PairsIn 37) w [] false) := by
  have hp60 := hg.1.2
  have HH := Lib.hid h
  have HG := Lib.hid hg
  have HC := Lib.hid hc
  have HTH := Lib.hid ht
  obtain ⟨m, hm⟩ : ∃ m, m = headC (c, d) xs := ⟨_, rfl⟩
  have hmle : m ≤ xs.length := by rw [hm]; exact headC_le _ _
  have HM := Lib.hid hm
  have HN := Lib.hid (show ∀ k, k < m → xs.getD k (0, 0) ≠ (c, d) by
    intro k hk
    have := headC_less (c, d) xs k (by omega); intro e; rw [e] at this; exact lessC_irrefl _ this)
  clear hm
  obtain ⟨a1, c1, g1, rfl, ha1, hmm, hx1, hy1⟩ := h.pairs.view
  have hne : ((xs.length : Int) == 30) = false := beq_eq_false_iff_ne.2 (by omega)
  have X := Lib.hid hx1
  have Y := Lib.hid hy1
  have HA := Lib.hid ha1
  clear h hg hc ht ha1 hx1 hy1 hmm
  go_enter Try.func44, Try.ntmps44
  go_wp2_with (first | (go_at_call 48; (with_reducible refine (sgGood_yes _ xs B T _ (HH.out.keep (belowSame (by go_grown) hT)) HG.out).mono ?_); rintro e w1 ⟨rfl, hb1⟩; (have d0 := cellB hb1 (b := w.heap.size) (o := 0) (x := .int .i64 c) (by go_simp)); (have d1 := cellB hb1 (b := w.heap.size) (o := 1) (x := .int .i64 d) (by go_simp)); (have hB1 : Below w.heap.size w w1 := Below.trans (by go_grown) (hb1.mono (by simp))); have hz1 := hb1.size) | (go_at_call 53; (with_reducible refine (sgThread_yes c d _ HC.out).mono ?_); rintro e w2 ⟨rfl, hb2⟩; (have e0 := cellB hb2 d0); (have e1 := cellB hb2 d1); (have hB2 : Below w.heap.size w w2 := hB1.trans (hb2.mono (by simp at hz1; omega))); have hz2 := hb2.size))
  go_loopw [23] (fun i wr => ∃ k : Nat, k ≤ m ∧ i = .int .i64 k ∧ Below w.heap.size w wr ∧ wr.cell? ⟨w.heap.size, 0, none⟩ = some (.int .i64 c) ∧ wr.cell? ⟨w.heap.size, 1, none⟩ = some (.int .i64 d) ∧ w.heap.size < wr.heap.size) (fun i _ => m - (intOf i).toNat)
  case atStart => exact ⟨0, by omega, rfl, hB2, e0, e1, by simp at hz1; omega⟩
  case round =>
    obtain ⟨k, hk, rfl, hB, p0, p1, hz⟩ := hrel
    by_cases hkm : k < m
    · obtain rfl := HA.out (by omega)
      obtain ⟨x, y, hxy⟩ : ∃ x y, xs.getD k (0, 0) = (x, y) := ⟨_, _, rfl⟩
      have cx : wr.cell? ⟨g1, k * 2, none⟩ = _ := (hB.cell (p := ⟨g1, k * 2, none⟩) (World.block_lt_of_cell? w _ (X.out k (by omega)))).trans (X.out k (by omega))
      have cy : wr.cell? ⟨g1, k * 2 + 1, none⟩ = _ := (hB.cell (p := ⟨g1, k * 2 + 1, none⟩) (World.block_lt_of_cell? w _ (Y.out k (by omega)))).trans (Y.out k (by omega))
      have hnn := HN.out k hkm
      rw [hxy] at cx cy hnn
      simp only at cx cy
      have hi2 : (k : Int) < (xs.length : Int) := by omega
      have hnq : (x == c && y == d) = false := by
        cases e1 : (x == c) with
        | false => rfl
        | true =>
          cases e2 : (y == d) with
          | false => rfl
          | true => exact absurd (by rw [Prod.mk.injEq]; exact ⟨eq_of_beq e1, eq_of_beq e2⟩) hnn
      clear hnn hxy
      by_cases hcx : c = x
      · have hdy : (y == d) = false := by
          cases e : (y == d) with
          | false => rfl
          | true => rw [hcx, e] at hnq; simp at hnq
        subst hcx
        clear hnq
        go_wp2
        go_roundw
        case rel => exact ⟨k + 1, by omega, by go_num, by go_grown, by go_simp, by go_simp, by simp; omega⟩
        case measure => simp [intOf]; omega
      · have hcb : (x == c) = false := beq_eq_false_iff_ne.2 (Ne.symm hcx)
        clear hnq
        go_wp2
        go_roundw
        case rel => exact ⟨k + 1, by omega, by go_num, by go_grown, by go_simp, by go_simp, by simp; omega⟩
        case measure => simp [intOf]; omega
    · obtain rfl : k = m := by omega
      have hth := HTH.out
      unfold thereAt at hth
      rw [decide_eq_true_eq, ← HM.out] at hth
      obtain ⟨hkl, hxy⟩ := hth
      obtain rfl := HA.out (by omega)
      have cx : wr.cell? ⟨g1, k * 2, none⟩ = _ := (hB.cell (p := ⟨g1, k * 2, none⟩) (World.block_lt_of_cell? w _ (X.out k (by omega)))).trans (X.out k (by omega))
      have cy : wr.cell? ⟨g1, k * 2 + 1, none⟩ = _ := (hB.cell (p := ⟨g1, k * 2 + 1, none⟩) (World.block_lt_of_cell? w _ (Y.out k (by omega)))).trans (Y.out k (by omega))
      rw [hxy] at cx cy
      simp only at cx cy
      have hi2 : (k : Int) < (xs.length : Int) := by omega
      clear hxy hkm
      go_wp2
      go_ret2
      exact ⟨_, rfl, PairsIn.nil _ _ _ _, by go_grown⟩

end Go.Proofs.Ytngonpiiehmlaaa
