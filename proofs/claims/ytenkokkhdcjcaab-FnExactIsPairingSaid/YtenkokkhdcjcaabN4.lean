/- Whether a set is a pairing: the model; the law. -/
import Derived.Test.YtenkokkhdcjcaabN3
namespace Go.Proofs.Ytenkokkhdcjcaab
open Go.RowKit Go.Maps
set_option linter.unusedVariables false

set_option maxHeartbeats 1000000 in
theorem cdPairing_any (p : Nat) (u : Value) (xs : List (Int × Int)) (B T : Nat) (w : World) (h : PairsIn 62 w B T u xs) (hg : goodC p xs) :
    Calls Try.prog 52 #[.int .i64 p, u] w fun e w' => e = .returned (.bool (onceAll p (flatP xs))) ∧ Below w.heap.size w w' := by
  obtain ⟨a1, c1, g1, rfl, ha1, hmm, hx1, hy1⟩ := h.pairs.view
  have hp := hg.1
  have hl := hg.2.1
  have X := Lib.hid hx1
  have Y := Lib.hid hy1
  have HA := Lib.hid ha1
  have HG := Lib.hid hg
  obtain ⟨bb, hbb⟩ : ∃ b, b = onceAll p (flatP xs) := ⟨_, rfl⟩
  rw [← hbb]
  have HBB := Lib.hid hbb
  obtain ⟨n, hnn⟩ : ∃ n, n = xs.length := ⟨_, rfl⟩
  rw [← hnn] at X Y HA hmm hl ⊢
  have HNN := Lib.hid hnn
  have hmk := make_ints (P := Try.prog) Try.underlying39 info_int p (by omega)
  have I0 := Lib.hid (Ints.made w w.heap.size 3 p (Nat.le_refl _) (by omega))
  clear h ha1 hx1 hy1 hg hnn hbb
  go_enter Try.func52, Try.ntmps52
  go_wp2
  go_loopw [14] (fun i wr => ∃ k : Nat, k ≤ n ∧ i = .int .i64 k ∧ Ints wr w.heap.size 3 (.slice (some ⟨w.heap.size, 0, none⟩) p p) (timesL p (flatP (xs.take k))) ∧ Below w.heap.size w wr ∧ w.heap.size < wr.heap.size) (fun i _ => n - (intOf i).toNat)
  case atStart => exact ⟨0, by omega, rfl, by rw [List.take_zero, show flatP [] = [] from rfl, timesL_nil]; exact I0.out, by go_grown, by simp⟩
  case round =>
    obtain ⟨k, hk, rfl, hI, hB, hz⟩ := hrel
    by_cases hlt : k < n
    · obtain rfl := HA.out (by omega)
      obtain ⟨x', y', hxy⟩ : ∃ x y, xs.getD k (0, 0) = (x, y) := ⟨_, _, rfl⟩
      have hor := (HG.out.2.2 k (by have := HNN.out; omega)).1
      have cx : wr.cell? ⟨g1, k * 2, none⟩ = _ := (hB.cell (p := ⟨g1, k * 2, none⟩) (World.block_lt_of_cell? w _ (X.out k hlt))).trans (X.out k hlt)
      have cy : wr.cell? ⟨g1, k * 2 + 1, none⟩ = _ := (hB.cell (p := ⟨g1, k * 2 + 1, none⟩) (World.block_lt_of_cell? w _ (Y.out k hlt))).trans (Y.out k hlt)
      rw [hxy] at cx cy hor
      simp only at cx cy hor
      obtain ⟨o1, o2, o3⟩ := hor
      obtain ⟨x, rfl⟩ := Int.eq_ofNat_of_zero_le o1
      obtain ⟨y, rfl⟩ := Int.eq_ofNat_of_zero_le (show 0 ≤ y' by omega)
      have HF := Lib.hid (flat_snoc xs k (by have := HNN.out; omega) _ _ hxy)
      have hlen := flatP_length (xs.take k)
      rw [List.length_take, ← HNN.out] at hlen
      obtain ⟨E, hE⟩ : ∃ E, E = flatP (xs.take k) := ⟨_, rfl⟩
      rw [← hE] at HF hI hlen
      have hct1 := count_le p E (x : Int)
      have hct2 := count_le p (E ++ [(x : Int)]) (y : Int)
      rw [List.length_append, List.length_singleton] at hct2
      have x0 := hI.cellAt x (by rw [timesL_length]; omega)
      rw [timesL_get p E x (by omega)] at x0
      have f0 := hI.frozenAt x
      have s1 := hI.stored x (((E.count (x : Int) : Nat) : Int) + 1)
      rw [timesL_set p E x (by omega)] at s1
      have y0 := s1.1.cellAt y (by rw [timesL_length]; omega)
      rw [timesL_get p _ y (by omega)] at y0
      have f1 := s1.1.frozenAt y
      have z1 := s1.2.size
      have s2 := s1.1.stored y ((((E ++ [(x : Int)]).count (y : Int) : Nat) : Int) + 1)
      rw [timesL_set p _ y (by omega)] at s2
      have hb1 := hI.below hB (by omega) s1.2
      have HB2 := Lib.hid (s1.1.below hb1 hb1.size s2.2)
      have HS2 := Lib.hid s2
      have HS1 := Lib.hid s1
      have k1 : (x : Int) < (p : Int) := by omega
      have k2 : (y : Int) < (p : Int) := by omega
      obtain ⟨ca, hca⟩ : ∃ c, c = E.count (x : Int) := ⟨_, rfl⟩
      obtain ⟨cb, hcb⟩ : ∃ c, c = (E ++ [(x : Int)]).count (y : Int) := ⟨_, rfl⟩
      rw [← hca] at x0 hct1 y0 HS1 HS2 f1 HB2
      rw [← hcb] at y0 hct2 HS2 HB2
      clear hI s1 s2 hb1 hxy hE hca hcb
      go_wp2
      go_roundw
      case rel => exact ⟨k + 1, by omega, by go_num, by rw [HF.out]; exact HS2.out.1.later ((Below.refl _ _).alloc (Nat.le_refl _) _), HB2.out.alloc HB2.out.size _, by simp; omega⟩
      case measure => simp [intOf]; omega
    · obtain rfl : k = n := by omega
      rw [List.take_of_length_le (by have := HNN.out; omega)] at hI
      have HI := Lib.hid hI
      clear hI
      go_wp2
      go_loop [35] (fun i => ∃ j : Nat, j ≤ p ∧ i = .int .i64 j ∧ ∀ q : Nat, q < j → (flatP xs).count (q : Int) = 1) (fun i => p - (intOf i).toNat)
      case atStart => exact ⟨0, by omega, rfl, fun q hq => by omega⟩
      case round =>
        obtain ⟨j, hj, rfl, hall⟩ := hrel
        have HALL := Lib.hid hall
        clear hall
        by_cases hjp : j < p
        · have y0 := HI.out.cellAt j (by rw [timesL_length]; omega)
          rw [timesL_get p _ j hjp] at y0
          obtain ⟨c, hc⟩ : ∃ c, c = (flatP xs).count (j : Int) := ⟨_, rfl⟩
          rw [← hc] at y0
          have HC := Lib.hid hc
          clear hc
          by_cases h1 : c = 1
          · have e1 : ((c : Int) != 1) = false := by rw [h1]; rfl
            have H1 := Lib.hid h1
            clear h1
            go_wp2
            go_round
            case rel =>
              refine ⟨j + 1, by omega, by go_num, fun q hq => ?_⟩
              by_cases e : q = j
              · rw [e, ← HC.out]; exact H1.out
              · exact HALL.out q (by omega)
            case measure => simp [intOf]; omega
          · have e1 : ((c : Int) != 1) = true := by rw [bne_iff_ne]; omega
            have e2 : bb = false := by
              rw [HBB.out]
              unfold onceAll
              rw [decide_eq_false_iff_not]
              intro h
              exact h1 (by rw [HC.out]; exact h j hjp)
            clear h1
            subst e2
            go_wp2
            go_ret
            exact ⟨rfl, hB⟩
        · obtain rfl : j = p := by omega
          have e2 : bb = true := by
            rw [HBB.out]
            unfold onceAll
            rw [decide_eq_true_eq]
            exact HALL.out
          subst e2
          go_wp2
          go_ret
          exact ⟨rfl, hB⟩

end Go.Proofs.Ytenkokkhdcjcaab
