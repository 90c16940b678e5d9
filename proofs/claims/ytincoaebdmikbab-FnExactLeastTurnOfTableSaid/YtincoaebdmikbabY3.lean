/- Chords told anew, by the program. -/
import Derived.Test.YtincoaebdmikbabY2
namespace Go.Proofs.Ytincoaebdmikbab
open Go.RowKit
set_option linter.unusedVariables false

set_option maxHeartbeats 400000 in
theorem ctb_any (a b : Int) (w : World) :
    Calls Try.prog 41 #[.int .i64 a, .int .i64 b] w fun e w' => e = .returned (.agg #[.int .i64 (min a b), .int .i64 (max a b)]) ∧ Below w.heap.size w w' := by
  rcases Int.lt_trichotomy a b with h | h | h
  · have h1 : min a b = a := by omega
    have h2 : max a b = b := by omega
    have h3 : ¬ b < a := by omega
    go_enter Try.func41, Try.ntmps41
    go_wp2
    go_returns
    exact ⟨rfl, by go_grown⟩
  · subst h
    have h1 : min a a = a := by omega
    have h2 : max a a = a := by omega
    go_enter Try.func41, Try.ntmps41
    go_wp2
    go_returns
    exact ⟨by rw [h1, h2], by go_grown⟩
  · have h1 : min a b = b := by omega
    have h2 : max a b = a := by omega
    have h3 : ¬ a < b := by omega
    go_enter Try.func41, Try.ntmps41
    go_wp2
    go_returns
    exact ⟨rfl, by go_grown⟩

set_option maxHeartbeats 400000 in
theorem endsOf_any (a b : Int) (w : World) :
    Calls Try.prog 74 #[.agg #[.int .i64 a, .int .i64 b]] w fun e w' => e = .returned (.agg #[.int .i64 a, .int .i64 b]) ∧ Below w.heap.size w w' := by
  go_enter Try.func74, Try.ntmps74
  go_wp2
  go_returns
  exact ⟨rfl, by go_grown⟩

set_option maxHeartbeats 400000 in
theorem turnFn_any (r p t x : Int) (ga gb : Nat) (w : World) (ca : w.cell? ⟨ga, 0, none⟩ = some (.int .i64 t)) (cb : w.cell? ⟨gb, 0, none⟩ = some (.int .i64 p)) (hp : 3 ≤ p ∧ p ≤ 60) (ht : 0 ≤ t ∧ t < p) (hx : 0 ≤ x ∧ x < p) (hr : r = (x + t) % p) :
    Calls Try.prog 63 #[.int .i64 x, .pointer (some ⟨ga, 0, none⟩), .pointer (some ⟨gb, 0, none⟩)] w fun e w' => e = .returned (.int .i64 r) ∧ w' = w := by
  have h1 : 0 ≤ x + t := by omega
  have hw : IntKind.i64.wrap (x + t) = x + t := by rw [IntKind.wrap_i64]; omega
  have hp0 : ¬ p = 0 := by omega
  have ht1 : Int.tmod (x + t) p = r := by rw [hr]; exact Int.tmod_eq_emod_of_nonneg h1
  clear hr
  go_enter Try.func63, Try.ntmps63
  go_wp2
  go_ret
  exact ⟨rfl, rfl⟩

theorem map_range_getD2 {α β : Type} (f : α → β) (xs : List α) (z : α) : (List.range xs.length).map (fun i => f (xs.getD i z)) = xs.map f := by
  have h := range_getD xs z
  calc (List.range xs.length).map (fun i => f (xs.getD i z)) = ((List.range xs.length).map (fun i => xs.getD i z)).map f := by rw [List.map_map]; rfl
    _ = xs.map f := by rw [h]

set_option maxHeartbeats 1000000 in
set_option maxRecDepth 100000 in
theorem retold_turn (p : Int) (t : Int) (ga gb : Nat) (u : Value) (xs : List (Int × Int)) (B T : Nat) (w : World) (h : PairsIn 56 w B T u xs) (hg : goodW p xs) (ht : 0 ≤ t ∧ t < p) (ca : w.cell? ⟨ga, 0, none⟩ = some (.int .i64 t)) (cb : w.cell? ⟨gb, 0, none⟩ = some (.int .i64 p)) :
    Calls Try.prog 62 #[u, .func (.func 63) #[] #[.pointer (some ⟨ga, 0, none⟩), .pointer (some ⟨gb, 0, none⟩)]] w fun e w' => ∃ v, e = .returned v ∧ PairsIn 56 w' w.heap.size w'.heap.size v (sortL (xs.map (retC (fun a => (a + t) % p)))) ∧ Below w.heap.size w w' := by
  obtain ⟨a1, c1, g1, rfl, ha1, hmm, hx1, hy1⟩ := h.pairs.view
  have hp := hg.1
  have hl := hg.2.1
  have X := Lib.hid hx1
  have Y := Lib.hid hy1
  have HA := Lib.hid ha1
  have HG := Lib.hid hg
  have HE : Hid ((List.range xs.length).map (fun i => retC (fun a => (a + t) % p) (xs.getD i (0, 0))) = xs.map (retC (fun a => (a + t) % p))) := Lib.hid (map_range_getD2 (retC (fun a => (a + t) % p)) xs (0, 0))
  obtain ⟨n, hnn⟩ : ∃ n, n = xs.length := ⟨_, rfl⟩
  rw [← hnn] at X Y HA HE hmm hl ⊢
  have HNN := Lib.hid hnn
  have hmk := make_pairs (P := Try.prog) Try.underlying30 info_chord n (by omega)
  clear h ha1 hx1 hy1 hg hnn
  go_enter Try.func62, Try.ntmps62
  go_wp2
  go_loopw [16] (fun i wr => ∃ k : Nat, k ≤ n ∧ i = .int .i64 k ∧ Pairs wr w.heap.size 56 (.slice (some ⟨w.heap.size, 0, none⟩) n n) (fillG (fun i => retC (fun a => (a + t) % p) (xs.getD i (0, 0))) (0, 0) n k) ∧ Below w.heap.size w wr ∧ w.heap.size < wr.heap.size) (fun i _ => n - (intOf i).toNat)
  case atStart => exact ⟨0, by omega, rfl, by rw [fillG_zero]; exact Pairs.made w w.heap.size _ n (Nat.le_refl _) (by omega), by go_grown, by simp⟩
  case round =>
    obtain ⟨k, hk, rfl, hI, hB, hz⟩ := hrel
    by_cases hlt : k < n
    · obtain rfl := HA.out (by omega)
      obtain ⟨x, y, hxy⟩ : ∃ x y, xs.getD k (0, 0) = (x, y) := ⟨_, _, rfl⟩
      have hor := (HG.out.2.2 k (by have := HNN.out; omega)).1
      have cx : wr.cell? ⟨g1, k * 2, none⟩ = _ := (hB.cell (p := ⟨g1, k * 2, none⟩) (World.block_lt_of_cell? w _ (X.out k hlt))).trans (X.out k hlt)
      have cy : wr.cell? ⟨g1, k * 2 + 1, none⟩ = _ := (hB.cell (p := ⟨g1, k * 2 + 1, none⟩) (World.block_lt_of_cell? w _ (Y.out k hlt))).trans (Y.out k hlt)
      rw [hxy] at cx cy hor
      simp only at cx cy hor
      have o1 : 0 ≤ x ∧ x < p := by have := hor.1; have := hor.2.1; have := hor.2.2; omega
      have o2 : 0 ≤ y ∧ y < p := by have := hor.1; have := hor.2.1; have := hor.2.2; omega
      have HO1 := Lib.hid o1
      have HO2 := Lib.hid o2
      have HF := Lib.hid (fillG_set (fun i => retC (fun a => (a + t) % p) (xs.getD i (0, 0))) (0, 0) n k hlt)
      obtain ⟨rx, hrx⟩ : ∃ r, r = (fun a => (a + t) % p) x := ⟨_, rfl⟩
      obtain ⟨ry, hry⟩ : ∃ r, r = (fun a => (a + t) % p) y := ⟨_, rfl⟩
      have HRX := Lib.hid hrx
      have HRY := Lib.hid hry
      have HXY := Lib.hid (show retC (fun a => (a + t) % p) (xs.getD k (0, 0)) = (min rx ry, max rx ry) by rw [hxy, hrx, hry]; rfl)
      clear hrx hry
      have HI := Lib.hid hI
      have la := World.block_lt_of_cell? w _ ca
      have lb := World.block_lt_of_cell? w _ cb
      have da : wr.cell? ⟨ga, 0, none⟩ = some (.int .i64 t) := (hB.cell (p := ⟨ga, 0, none⟩) la).trans ca
      have db : wr.cell? ⟨gb, 0, none⟩ = some (.int .i64 p) := (hB.cell (p := ⟨gb, 0, none⟩) lb).trans cb
      simp only at la lb
      have la' : ga < wr.heap.size := by omega
      have lb' : gb < wr.heap.size := by omega
      have i0 : ∀ W, (Instr.index 80 (.agg #[.int .i64 x, .int .i64 y]) (.int .i64 0)).run Try.prog W = .ok (.int .i64 x) W := fun _ => by kernel_rfl
      have i1 : ∀ W, (Instr.index 80 (.agg #[.int .i64 x, .int .i64 y]) (.int .i64 1)).run Try.prog W = .ok (.int .i64 y) W := fun _ => by kernel_rfl
      clear hxy hI o1 o2 hor
      go_wp2_with (first | (go_at_call 74; (with_reducible refine (endsOf_any x y _).mono ?_); rintro e w1 ⟨rfl, hb1⟩; (have B1 : Below wr.heap.size wr w1 := Below.trans (by go_grown) (hb1.mono (by first | omega | (simp; done) | (simp; omega)))); have n1 := B1.size; (have ea := (B1.cell (p := ⟨ga, 0, none⟩) la').trans da); (have eb := (B1.cell (p := ⟨gb, 0, none⟩) lb').trans db); (have ma : ga < w1.heap.size := by omega); (have mb : gb < w1.heap.size := by omega); clear hb1))
      refine wp_loop_rounds 3 ?_
      rw [rounds_succ]
      go_wp2_with (first | (go_at_call 63; refine (turnFn_any rx p t x ga gb _ (((show Below w1.heap.size w1 _ from by go_grown).cell (p := ⟨ga, 0, none⟩) ma).trans ea) (((show Below w1.heap.size w1 _ from by go_grown).cell (p := ⟨gb, 0, none⟩) mb).trans eb) hp ht HO1.out HRX.out).mono ?_; rintro e w2 ⟨rfl, rfl⟩))
      rw [rounds_succ]
      go_wp2_with (first | (go_at_call 63; refine (turnFn_any ry p t y ga gb _ (((show Below w1.heap.size w1 _ from by go_grown).cell (p := ⟨ga, 0, none⟩) ma).trans ea) (((show Below w1.heap.size w1 _ from by go_grown).cell (p := ⟨gb, 0, none⟩) mb).trans eb) hp ht HO2.out HRY.out).mono ?_; rintro e w2 ⟨rfl, rfl⟩))
      rw [rounds_succ]
      go_wp2_with (first | (go_at_call 41; (with_reducible refine (ctb_any rx ry _).mono ?_); rintro e w2 ⟨rfl, hb2⟩; (have B2 : Below wr.heap.size wr w2 := (B1.trans ((Below.refl wr.heap.size w1).alloc n1 _)).trans (hb2.mono (by simp; omega))); (have n2 := B2.size); (have hI2 := HI.out.later B2); (have hB2 := hB.trans (B2.mono (by omega))); (have HS := Lib.hid (hI2.stored k (by rw [fillG_length _ _ _ _ hk]; omega) (min rx ry) (max rx ry))); (have d0 := hI2.cell0 k (by rw [fillG_length _ _ _ _ hk]; omega)); (have d1 := hI2.cell1 k (by rw [fillG_length _ _ _ _ hk]; omega)); (have f0 := hI2.frozenAt (k * 2)); (have f1 := hI2.frozenAt (k * 2 + 1)); (have HB3 := Lib.hid (hI2.below hB2 (by omega) HS.out.2)); clear hI2 hb2 hB2))
      go_roundw
      case rel => exact ⟨k + 1, by omega, by go_num, by rw [← HF.out, HXY.out]; exact HS.out.1, HB3.out, by simp; omega⟩
      case measure => simp [intOf]; omega
    · obtain rfl : k = n := by omega
      rw [fillG_all, HE.out] at hI
      have HI := Lib.hid hI
      clear hI
      go_wp2_with (first | (go_at_call 60; refine (sortC_any _ _ w.heap.size _ HI.out (by rw [List.length_map, ← HNN.out]; omega)).mono ?_; rintro e w2 ⟨rfl, hp2, hg2⟩; have HP2 := Lib.hid hp2; have HG2 := Lib.hid hg2; have HI2 := Lib.hid (HI.out.own); clear hp2 hg2))
      go_ret
      exact ⟨_, rfl, HP2.out.inn, hB.grown HG2.out (by omega) (fun j hj => (HI2.out j hj).1)⟩

end Go.Proofs.Ytincoaebdmikbab
