/- Whether a set is a pairing. -/
import Derived.Test.YtenkokkhdcjcaabN2
namespace Go.Proofs.Ytenkokkhdcjcaab
open Go.RowKit Go.Maps
set_option linter.unusedVariables false

set_option maxHeartbeats 400000 in
theorem endsOf_n (a b : Int) (w : World) :
    Calls Try.prog 84 #[.agg #[.int .i64 a, .int .i64 b]] w fun e w' => e = .returned (.agg #[.int .i64 a, .int .i64 b]) ∧ Below w.heap.size w w' := by
  go_enter Try.func84, Try.ntmps84
  go_wp2
  go_returns
  exact ⟨rfl, by go_grown⟩

set_option maxHeartbeats 1000000 in
set_option maxRecDepth 100000 in
theorem joins_any (p : Nat) (u : Value) (xs : List (Int × Int)) (B T : Nat) (w : World) (h : PairsIn 62 w B T u xs) (hg : goodC p xs) :
    Calls Try.prog 55 #[.int .i64 p, u] w fun e w' => e = .returned (.bool (onceAll p (flatP xs))) ∧ Below w.heap.size w w' := by
  obtain ⟨a1, c1, g1, rfl, ha1, hmm, hx1, hy1⟩ := h.pairs.view
  have hp := hg.1
  have hl := hg.2.1
  have X := Lib.hid hx1
  have Y := Lib.hid hy1
  have HA := Lib.hid ha1
  have HG := Lib.hid hg
  have HO := Lib.hid (onceAll_iff p (flatP xs) (good_points hg))
  obtain ⟨bb, hbb⟩ : ∃ b, b = onceAll p (flatP xs) := ⟨_, rfl⟩
  rw [← hbb] at HO ⊢
  obtain ⟨n, hnn⟩ : ∃ n, n = xs.length := ⟨_, rfl⟩
  rw [← hnn] at X Y HA hmm hl ⊢
  have HNN := Lib.hid hnn
  have hmk := @run_makeMap Try.prog
  clear h ha1 hx1 hy1 hg hnn hbb
  go_enter Try.func55, Try.ntmps55
  go_wp2
  have HM := Lib.hid (SetI.made w p)
  clear hmk
  go_loopw [13] (fun i wr => ∃ k : Nat, k ≤ n ∧ i = .int .i64 k ∧ SetI wr w.heap.size (2 * k) p (flatP (xs.take k)) ∧ Below w.heap.size w wr) (fun i _ => n - (intOf i).toNat)
  case atStart => exact ⟨0, by omega, rfl, HM.out, by go_grown⟩
  case round =>
    obtain ⟨k, hk, rfl, hS, hB⟩ := hrel
    have hz := hB.size
    have hbl := hS.lt
    clear HM
    by_cases hlt : k < n
    · obtain rfl := HA.out (by omega)
      obtain ⟨x, y, hxy⟩ : ∃ x y, xs.getD k (0, 0) = (x, y) := ⟨_, _, rfl⟩
      have hor := (HG.out.2.2 k (by have := HNN.out; omega)).1
      have cx : wr.cell? ⟨g1, k * 2, none⟩ = _ := (hB.cell (p := ⟨g1, k * 2, none⟩) (World.block_lt_of_cell? w _ (X.out k hlt))).trans (X.out k hlt)
      have cy : wr.cell? ⟨g1, k * 2 + 1, none⟩ = _ := (hB.cell (p := ⟨g1, k * 2 + 1, none⟩) (World.block_lt_of_cell? w _ (Y.out k hlt))).trans (Y.out k hlt)
      rw [hxy] at cx cy hor
      simp only at cx cy hor
      obtain ⟨o1, o2, o3⟩ := hor
      have HF := Lib.hid (flat_snoc xs k (by have := HNN.out; omega) x y hxy)
      have wx := Lib.hid (keyI_of x (WalkArith.wf_i64 (by omega)))
      have wy := Lib.hid (keyI_of y (WalkArith.wf_i64 (by omega)))
      have fx : (Lit.int .i64 x).wf = true := WalkArith.wf_i64 (by omega)
      have fy : (Lit.int .i64 y).wf = true := WalkArith.wf_i64 (by omega)
      have FX := Lib.hid fx
      have FY := Lib.hid fy
      have i0 : ∀ W, (Instr.index 89 (.agg #[.int .i64 x, .int .i64 y]) (.int .i64 0)).run Try.prog W = .ok (.int .i64 x) W := fun _ => by kernel_rfl
      have i1 : ∀ W, (Instr.index 89 (.agg #[.int .i64 x, .int .i64 y]) (.int .i64 1)).run Try.prog W = .ok (.int .i64 y) W := fun _ => by kernel_rfl
      obtain ⟨D, hown, hs, hk1⟩ := hS
      have HO := Lib.hid hown
      have HS := Lib.hid hs
      have K1 := Lib.hid hk1
      clear hown hs hk1 hxy fx fy
      go_wp2_with (first | (go_at_call 84; (with_reducible refine (endsOf_n x y _).mono ?_); rintro e w1 ⟨rfl, hb1⟩; (have B1 : Below wr.heap.size wr w1 := Below.trans (by go_grown) (hb1.mono (by first | omega | (simp; done) | (simp; omega)))); have n1 := B1.size; (have HO1 := Lib.hid (HO.out.kept (Below.by B1) (by simp))); clear hb1))
      refine wp_loop_rounds 3 ?_
      rw [rounds_succ]
      go_wp2_with (first | (at_mapUpdate; refine wpList_mapUpdate_own _ rfl _ _ _ 87 rfl 3 4 keyI Try.underlying87 _ w.heap.size (2 * k) _ rfl HO1.out (by unfold maxLen; omega) _ _ (.int .i64 x) rfl rfl wx.out _ [] (elemI_mk true) ?_; intro w2 hown hg; (have HP2 := Lib.hid hown); (have HG2 := Lib.hid hg); clear hown hg; go_frame))
      obtain ⟨D2, hown2, hs2, hk2⟩ := SetI.put HO.out HS.out K1.out o1 (by omega) FX.out HP2.out
      have HO2 := Lib.hid hown2
      have HS2 := Lib.hid hs2
      have K2 := Lib.hid hk2
      have B2 := (hB.trans (B1.mono hz)).grown HG2.out (by omega) (fun j hj => by cases hj; exact Nat.le_refl _)
      clear hown2 hs2 hk2
      rw [rounds_succ]
      go_wp2_with (first | (at_mapUpdate; refine wpList_mapUpdate_own _ rfl _ _ _ 87 rfl 3 4 keyI Try.underlying87 _ w.heap.size (2 * k + 1) _ rfl HO2.out (by unfold maxLen; omega) _ _ (.int .i64 y) rfl rfl wy.out _ [] (elemI_mk true) ?_; intro w3 hown hg; (have HP3 := Lib.hid hown); (have HG3 := Lib.hid hg); clear hown hg; go_frame))
      have hS3 := SetI.put HO2.out HS2.out K2.out (show 0 ≤ y by omega) (by omega) FY.out HP3.out
      rw [← HF.out] at hS3
      have HS3 := Lib.hid hS3
      have B3 := B2.grown HG3.out (by have := HG2.out.size; omega) (fun j hj => by cases hj; exact Nat.le_refl _)
      clear hS3
      rw [rounds_succ]
      go_wp2
      go_roundw
      case rel => exact ⟨k + 1, by omega, by go_num, HS3.out, B3⟩
      case measure => simp [intOf]; omega
    · obtain rfl : k = n := by omega
      rw [List.take_of_length_le (by have := HNN.out; omega)] at hS
      obtain ⟨D, hown, hs, _⟩ := hS
      have hlen : (flatP xs).length = 2 * k := by rw [flatP_length, ← HNN.out]; omega
      have hO := HO.out
      rw [hlen] at hO
      obtain ⟨df, hdf⟩ : ∃ d, d = diffs p (flatP xs) := ⟨_, rfl⟩
      rw [← hdf] at hs hO
      have hsz := hown.size_le
      rw [hs] at hsz
      have HO1 := Lib.hid hown
      have HSZ := Lib.hid hs
      have HR := Lib.hid hO
      clear hown hs hO hlen hdf
      by_cases h1 : df = p
      · by_cases h2 : 2 * k = p
        · have e1 : ((df : Int) == (p : Int)) = true := by rw [h1]; simp
          have e2 : (2 * (k : Int) == (p : Int)) = true := by rw [beq_iff_eq]; omega
          have e3 : bb = true := by rw [HR.out]; simp [h1, h2]
          subst e3
          clear h1 h2
          go_wp2_with (at_len; refine wpList_len_own _ rfl _ 87 rfl 3 4 Try.underlying87 _ w.heap.size (2 * k) _ rfl HO1.out ?_; rw [HSZ.out])
          go_ret
          exact ⟨rfl, hB⟩
        · have e1 : ((df : Int) == (p : Int)) = true := by rw [h1]; simp
          have e2 : (2 * (k : Int) == (p : Int)) = false := by rw [beq_eq_false_iff_ne]; omega
          have e3 : bb = false := by rw [HR.out]; simp [h2]
          subst e3
          clear h1 h2
          go_wp2_with (at_len; refine wpList_len_own _ rfl _ 87 rfl 3 4 Try.underlying87 _ w.heap.size (2 * k) _ rfl HO1.out ?_; rw [HSZ.out])
          go_ret
          exact ⟨rfl, hB⟩
      · have e1 : ((df : Int) == (p : Int)) = false := by rw [beq_eq_false_iff_ne]; omega
        have e3 : bb = false := by rw [HR.out]; simp [h1]
        subst e3
        clear h1
        go_wp2_with (at_len; refine wpList_len_own _ rfl _ 87 rfl 3 4 Try.underlying87 _ w.heap.size (2 * k) _ rfl HO1.out ?_; rw [HSZ.out])
        go_ret
        exact ⟨rfl, hB⟩

end Go.Proofs.Ytenkokkhdcjcaab
