/- Regions: the laws of RegionsOf, CountPieces, PiecesOfChord, ArcsParted. -/
import Derived.Test.YtmfbbbnenngehaaA6
import Derived.Test.YtmfbbbnenngehaaAP
namespace Go.Proofs.Ytmfbbbnenngehaa
open Go.RowKit
set_option linter.unusedVariables false

set_option maxHeartbeats 1000000 in
theorem core_RegionsOf (p : Int) (v : Value) (xs : List (Int × Int)) (x : Int) (b : Bool) (w : World) (hA : ArgP w v xs) (hn : xs.length ≤ 1048576)
    (hs : ∀ (W : World) (u : Value) (B T : Nat), PairsIn 59 W B T u xs → T ≤ W.heap.size → Calls Try.prog 15 #[.int .i64 p, u] W (fun e w' => e = .returned (.tuple #[.int .i64 x, .bool b]) ∧ Below W.heap.size W w'))
    (hi : ∀ (W : World) (u : Value) (B T : Nat), PairsIn 59 W B T u xs → T ≤ W.heap.size → Calls Try.prog 17 #[.int .i64 p, u] W (fun e w' => e = .returned (.tuple #[.int .i64 x, .bool b]) ∧ Below W.heap.size W w')) :
    Calls Try.prog 3 #[.int .i64 p, v] w fun e w' => e = .returned (.bool true) ∧ Below w.heap.size w w' := by
  have hA1 := hA
  obtain ⟨a0, cap, a, rfl, _⟩ := hA1
  have HS := Lib.hid hs
  have HI := Lib.hid hi
  have HA := Lib.hid hA
  clear hs hi hA
  go_enter Try.func3, Try.ntmps3
  go_wp2_with fail
  refine (szChordS_yes _ _ _ _ hn).mono ?_
  rintro e w0 ⟨rfl, rfl⟩
  go_wp2_with fail
  refine (toChordS_any _ _ _ (HA.out.later (by go_grown)) hn).mono ?_
  rintro e w1 ⟨va, rfl, ka_1, hb1⟩
  have n1 : w.heap.size ≤ w1.heap.size := by have := hb1.size; (try simp at this); omega
  have B1 : Below w.heap.size w w1 := Below.trans (by go_grown) (hb1.mono (by first | (simp; done) | (simp; omega)))
  go_wp2_with fail
  refine (HS.out _ _ _ _ ka_1 (by omega)).mono ?_
  rintro e w2 ⟨rfl, hb2⟩
  have n2 := hb2.size
  have B2 := B1.trans (hb2.mono (by omega))
  have ka_2 := ka_1.keep (belowSame hb2 (by omega))
  go_wp2_with fail
  refine (toChordS_any _ _ _ (HA.out.later B2) hn).mono ?_
  rintro e w3 ⟨vc, rfl, kc_3, hb3⟩
  have n3 := hb3.size
  have B3 := B2.trans (hb3.mono (by omega))
  have ka_3 := ka_2.keep (belowSame hb3 (by omega))
  go_wp2_with fail
  refine (HI.out _ _ _ _ kc_3 (by omega)).mono ?_
  rintro e w4 ⟨rfl, hb4⟩
  have n4 := hb4.size
  have B4 := B3.trans (hb4.mono (by omega))
  have ka_4 := ka_3.keep (belowSame hb4 (by omega))
  have kc_4 := kc_3.keep (belowSame hb4 (by omega))
  go_wp2_with fail
  refine (toChordS_any _ _ _ (HA.out.later B4) hn).mono ?_
  rintro e w5 ⟨vd, rfl, kd_5, hb5⟩
  have n5 := hb5.size
  have B5 := B4.trans (hb5.mono (by omega))
  have ka_5 := ka_4.keep (belowSame hb5 (by omega))
  have kc_5 := kc_4.keep (belowSame hb5 (by omega))
  go_wp2_with fail
  refine (eqChordS_in _ _ _ _ _ _ _ _ _ kc_5 kd_5).mono ?_
  rintro e w6 ⟨rfl, hb6⟩
  have n6 := hb6.size
  have B6 := B5.trans (hb6.mono (by omega))
  have ka_6 := ka_5.keep (belowSame hb6 (by omega))
  have kc_6 := kc_5.keep (belowSame hb6 (by omega))
  have kd_6 := kd_5.keep (belowSame hb6 (by omega))
  go_wp2_with fail
  go_ret
  exact ⟨rfl, B6⟩

set_option maxHeartbeats 400000 in
theorem long_RegionsOf (p : Int) (v : Value) (xs : List (Int × Int)) (w : World) (hA : ArgP w v xs) (hn : ¬ xs.length ≤ 1048576) :
    Calls Try.prog 3 #[.int .i64 p, v] w fun e w' => e = .returned (.bool true) ∧ Below w.heap.size w w' := by
  obtain ⟨a0, cap, a, rfl, _, hm, _⟩ := hA
  go_enter Try.func3, Try.ntmps3
  go_wp2_with fail
  refine (szChordS_no _ _ _ _ (by omega) hm).mono ?_
  rintro e w0 ⟨rfl, rfl⟩
  go_wp2_with fail
  go_ret
  exact ⟨rfl, by go_grown⟩

set_option maxHeartbeats 1000000 in
theorem core_CountPieces (p : Int) (v : Value) (xs : List (Int × Int)) (x : Int) (b : Bool) (w : World) (hA : ArgP w v xs) (hn : xs.length ≤ 1048576)
    (hs : ∀ (W : World) (u : Value) (B T : Nat), PairsIn 59 W B T u xs → T ≤ W.heap.size → Calls Try.prog 26 #[.int .i64 p, u] W (fun e w' => e = .returned (.tuple #[.int .i64 x, .bool b]) ∧ Below W.heap.size W w'))
    (hi : ∀ (W : World) (u : Value) (B T : Nat), PairsIn 59 W B T u xs → T ≤ W.heap.size → Calls Try.prog 27 #[.int .i64 p, u] W (fun e w' => e = .returned (.tuple #[.int .i64 x, .bool b]) ∧ Below W.heap.size W w')) :
    Calls Try.prog 7 #[.int .i64 p, v] w fun e w' => e = .returned (.bool true) ∧ Below w.heap.size w w' := by
  have hA1 := hA
  obtain ⟨a0, cap, a, rfl, _⟩ := hA1
  have HS := Lib.hid hs
  have HI := Lib.hid hi
  have HA := Lib.hid hA
  clear hs hi hA
  go_enter Try.func7, Try.ntmps7
  go_wp2_with fail
  refine (szChordS_yes _ _ _ _ hn).mono ?_
  rintro e w0 ⟨rfl, rfl⟩
  go_wp2_with fail
  refine (toChordS_any _ _ _ (HA.out.later (by go_grown)) hn).mono ?_
  rintro e w1 ⟨va, rfl, ka_1, hb1⟩
  have n1 : w.heap.size ≤ w1.heap.size := by have := hb1.size; (try simp at this); omega
  have B1 : Below w.heap.size w w1 := Below.trans (by go_grown) (hb1.mono (by first | (simp; done) | (simp; omega)))
  go_wp2_with fail
  refine (HS.out _ _ _ _ ka_1 (by omega)).mono ?_
  rintro e w2 ⟨rfl, hb2⟩
  have n2 := hb2.size
  have B2 := B1.trans (hb2.mono (by omega))
  have ka_2 := ka_1.keep (belowSame hb2 (by omega))
  go_wp2_with fail
  refine (toChordS_any _ _ _ (HA.out.later B2) hn).mono ?_
  rintro e w3 ⟨vc, rfl, kc_3, hb3⟩
  have n3 := hb3.size
  have B3 := B2.trans (hb3.mono (by omega))
  have ka_3 := ka_2.keep (belowSame hb3 (by omega))
  go_wp2_with fail
  refine (HI.out _ _ _ _ kc_3 (by omega)).mono ?_
  rintro e w4 ⟨rfl, hb4⟩
  have n4 := hb4.size
  have B4 := B3.trans (hb4.mono (by omega))
  have ka_4 := ka_3.keep (belowSame hb4 (by omega))
  have kc_4 := kc_3.keep (belowSame hb4 (by omega))
  go_wp2_with fail
  refine (toChordS_any _ _ _ (HA.out.later B4) hn).mono ?_
  rintro e w5 ⟨vd, rfl, kd_5, hb5⟩
  have n5 := hb5.size
  have B5 := B4.trans (hb5.mono (by omega))
  have ka_5 := ka_4.keep (belowSame hb5 (by omega))
  have kc_5 := kc_4.keep (belowSame hb5 (by omega))
  go_wp2_with fail
  refine (eqChordS_in _ _ _ _ _ _ _ _ _ kc_5 kd_5).mono ?_
  rintro e w6 ⟨rfl, hb6⟩
  have n6 := hb6.size
  have B6 := B5.trans (hb6.mono (by omega))
  have ka_6 := ka_5.keep (belowSame hb6 (by omega))
  have kc_6 := kc_5.keep (belowSame hb6 (by omega))
  have kd_6 := kd_5.keep (belowSame hb6 (by omega))
  go_wp2_with fail
  go_ret
  exact ⟨rfl, B6⟩

set_option maxHeartbeats 400000 in
theorem long_CountPieces (p : Int) (v : Value) (xs : List (Int × Int)) (w : World) (hA : ArgP w v xs) (hn : ¬ xs.length ≤ 1048576) :
    Calls Try.prog 7 #[.int .i64 p, v] w fun e w' => e = .returned (.bool true) ∧ Below w.heap.size w w' := by
  obtain ⟨a0, cap, a, rfl, _, hm, _⟩ := hA
  go_enter Try.func7, Try.ntmps7
  go_wp2_with fail
  refine (szChordS_no _ _ _ _ (by omega) hm).mono ?_
  rintro e w0 ⟨rfl, rfl⟩
  go_wp2_with fail
  go_ret
  exact ⟨rfl, by go_grown⟩

set_option maxHeartbeats 1000000 in
theorem core_PiecesOfChord (p : Int) (v : Value) (xs : List (Int × Int)) (k : Int) (x : Int) (b : Bool) (w : World) (hA : ArgP w v xs) (hn : xs.length ≤ 1048576)
    (hs : ∀ (W : World) (u : Value) (B T : Nat), PairsIn 59 W B T u xs → T ≤ W.heap.size → Calls Try.prog 24 #[.int .i64 p, u, .int .i64 k] W (fun e w' => e = .returned (.tuple #[.int .i64 x, .bool b]) ∧ Below W.heap.size W w'))
    (hi : ∀ (W : World) (u : Value) (B T : Nat), PairsIn 59 W B T u xs → T ≤ W.heap.size → Calls Try.prog 25 #[.int .i64 p, u, .int .i64 k] W (fun e w' => e = .returned (.tuple #[.int .i64 x, .bool b]) ∧ Below W.heap.size W w')) :
    Calls Try.prog 6 #[.int .i64 p, v, .int .i64 k] w fun e w' => e = .returned (.bool true) ∧ Below w.heap.size w w' := by
  have hA1 := hA
  obtain ⟨a0, cap, a, rfl, _⟩ := hA1
  have HS := Lib.hid hs
  have HI := Lib.hid hi
  have HA := Lib.hid hA
  clear hs hi hA
  go_enter Try.func6, Try.ntmps6
  go_wp2_with fail
  refine (szChordS_yes _ _ _ _ hn).mono ?_
  rintro e w0 ⟨rfl, rfl⟩
  go_wp2_with fail
  refine (toChordS_any _ _ _ (HA.out.later (by go_grown)) hn).mono ?_
  rintro e w1 ⟨va, rfl, ka_1, hb1⟩
  have n1 : w.heap.size ≤ w1.heap.size := by have := hb1.size; (try simp at this); omega
  have B1 : Below w.heap.size w w1 := Below.trans (by go_grown) (hb1.mono (by first | (simp; done) | (simp; omega)))
  go_wp2_with fail
  refine (HS.out _ _ _ _ ka_1 (by omega)).mono ?_
  rintro e w2 ⟨rfl, hb2⟩
  have n2 := hb2.size
  have B2 := B1.trans (hb2.mono (by omega))
  have ka_2 := ka_1.keep (belowSame hb2 (by omega))
  go_wp2_with fail
  refine (toChordS_any _ _ _ (HA.out.later B2) hn).mono ?_
  rintro e w3 ⟨vc, rfl, kc_3, hb3⟩
  have n3 := hb3.size
  have B3 := B2.trans (hb3.mono (by omega))
  have ka_3 := ka_2.keep (belowSame hb3 (by omega))
  go_wp2_with fail
  refine (HI.out _ _ _ _ kc_3 (by omega)).mono ?_
  rintro e w4 ⟨rfl, hb4⟩
  have n4 := hb4.size
  have B4 := B3.trans (hb4.mono (by omega))
  have ka_4 := ka_3.keep (belowSame hb4 (by omega))
  have kc_4 := kc_3.keep (belowSame hb4 (by omega))
  go_wp2_with fail
  refine (toChordS_any _ _ _ (HA.out.later B4) hn).mono ?_
  rintro e w5 ⟨vd, rfl, kd_5, hb5⟩
  have n5 := hb5.size
  have B5 := B4.trans (hb5.mono (by omega))
  have ka_5 := ka_4.keep (belowSame hb5 (by omega))
  have kc_5 := kc_4.keep (belowSame hb5 (by omega))
  go_wp2_with fail
  refine (eqChordS_in _ _ _ _ _ _ _ _ _ kc_5 kd_5).mono ?_
  rintro e w6 ⟨rfl, hb6⟩
  have n6 := hb6.size
  have B6 := B5.trans (hb6.mono (by omega))
  have ka_6 := ka_5.keep (belowSame hb6 (by omega))
  have kc_6 := kc_5.keep (belowSame hb6 (by omega))
  have kd_6 := kd_5.keep (belowSame hb6 (by omega))
  go_wp2_with fail
  go_ret
  exact ⟨rfl, B6⟩

set_option maxHeartbeats 400000 in
theorem long_PiecesOfChord (p : Int) (v : Value) (xs : List (Int × Int)) (k : Int) (w : World) (hA : ArgP w v xs) (hn : ¬ xs.length ≤ 1048576) :
    Calls Try.prog 6 #[.int .i64 p, v, .int .i64 k] w fun e w' => e = .returned (.bool true) ∧ Below w.heap.size w w' := by
  obtain ⟨a0, cap, a, rfl, _, hm, _⟩ := hA
  go_enter Try.func6, Try.ntmps6
  go_wp2_with fail
  refine (szChordS_no _ _ _ _ (by omega) hm).mono ?_
  rintro e w0 ⟨rfl, rfl⟩
  go_wp2_with fail
  go_ret
  exact ⟨rfl, by go_grown⟩

set_option maxHeartbeats 1000000 in
theorem core_ArcsParted (p : Int) (v : Value) (xs : List (Int × Int)) (i : Int) (j : Int) (x : Int) (b : Bool) (w : World) (hA : ArgP w v xs) (hn : xs.length ≤ 1048576)
    (hs : ∀ (W : World) (u : Value) (B T : Nat), PairsIn 59 W B T u xs → T ≤ W.heap.size → Calls Try.prog 28 #[.int .i64 p, u, .int .i64 i, .int .i64 j] W (fun e w' => e = .returned (.tuple #[.int .i64 x, .bool b]) ∧ Below W.heap.size W w'))
    (hi : ∀ (W : World) (u : Value) (B T : Nat), PairsIn 59 W B T u xs → T ≤ W.heap.size → Calls Try.prog 29 #[.int .i64 p, u, .int .i64 i, .int .i64 j] W (fun e w' => e = .returned (.tuple #[.int .i64 x, .bool b]) ∧ Below W.heap.size W w')) :
    Calls Try.prog 8 #[.int .i64 p, v, .int .i64 i, .int .i64 j] w fun e w' => e = .returned (.bool true) ∧ Below w.heap.size w w' := by
  have hA1 := hA
  obtain ⟨a0, cap, a, rfl, _⟩ := hA1
  have HS := Lib.hid hs
  have HI := Lib.hid hi
  have HA := Lib.hid hA
  clear hs hi hA
  go_enter Try.func8, Try.ntmps8
  go_wp2_with fail
  refine (szChordS_yes _ _ _ _ hn).mono ?_
  rintro e w0 ⟨rfl, rfl⟩
  go_wp2_with fail
  refine (toChordS_any _ _ _ (HA.out.later (by go_grown)) hn).mono ?_
  rintro e w1 ⟨va, rfl, ka_1, hb1⟩
  have n1 : w.heap.size ≤ w1.heap.size := by have := hb1.size; (try simp at this); omega
  have B1 : Below w.heap.size w w1 := Below.trans (by go_grown) (hb1.mono (by first | (simp; done) | (simp; omega)))
  go_wp2_with fail
  refine (HS.out _ _ _ _ ka_1 (by omega)).mono ?_
  rintro e w2 ⟨rfl, hb2⟩
  have n2 := hb2.size
  have B2 := B1.trans (hb2.mono (by omega))
  have ka_2 := ka_1.keep (belowSame hb2 (by omega))
  go_wp2_with fail
  refine (toChordS_any _ _ _ (HA.out.later B2) hn).mono ?_
  rintro e w3 ⟨vc, rfl, kc_3, hb3⟩
  have n3 := hb3.size
  have B3 := B2.trans (hb3.mono (by omega))
  have ka_3 := ka_2.keep (belowSame hb3 (by omega))
  go_wp2_with fail
  refine (HI.out _ _ _ _ kc_3 (by omega)).mono ?_
  rintro e w4 ⟨rfl, hb4⟩
  have n4 := hb4.size
  have B4 := B3.trans (hb4.mono (by omega))
  have ka_4 := ka_3.keep (belowSame hb4 (by omega))
  have kc_4 := kc_3.keep (belowSame hb4 (by omega))
  go_wp2_with fail
  refine (toChordS_any _ _ _ (HA.out.later B4) hn).mono ?_
  rintro e w5 ⟨vd, rfl, kd_5, hb5⟩
  have n5 := hb5.size
  have B5 := B4.trans (hb5.mono (by omega))
  have ka_5 := ka_4.keep (belowSame hb5 (by omega))
  have kc_5 := kc_4.keep (belowSame hb5 (by omega))
  go_wp2_with fail
  refine (eqChordS_in _ _ _ _ _ _ _ _ _ kc_5 kd_5).mono ?_
  rintro e w6 ⟨rfl, hb6⟩
  have n6 := hb6.size
  have B6 := B5.trans (hb6.mono (by omega))
  have ka_6 := ka_5.keep (belowSame hb6 (by omega))
  have kc_6 := kc_5.keep (belowSame hb6 (by omega))
  have kd_6 := kd_5.keep (belowSame hb6 (by omega))
  go_wp2_with fail
  go_ret
  exact ⟨rfl, B6⟩

set_option maxHeartbeats 400000 in
theorem long_ArcsParted (p : Int) (v : Value) (xs : List (Int × Int)) (i : Int) (j : Int) (w : World) (hA : ArgP w v xs) (hn : ¬ xs.length ≤ 1048576) :
    Calls Try.prog 8 #[.int .i64 p, v, .int .i64 i, .int .i64 j] w fun e w' => e = .returned (.bool true) ∧ Below w.heap.size w w' := by
  obtain ⟨a0, cap, a, rfl, _, hm, _⟩ := hA
  go_enter Try.func8, Try.ntmps8
  go_wp2_with fail
  refine (szChordS_no _ _ _ _ (by omega) hm).mono ?_
  rintro e w0 ⟨rfl, rfl⟩
  go_wp2_with fail
  go_ret
  exact ⟨rfl, by go_grown⟩

theorem walk_RegionsOf (p : Int) (v : Value) (xs : List (Int × Int)) (w : World) (_ : (Lit.int .i64 p).wf = true) (hA : ArgP w v xs) :
    Calls Try.prog 3 #[.int .i64 p, v] w fun e w' => e = .returned (.bool true) ∧ Below w.heap.size w w' := by
  by_cases hn : xs.length ≤ 1048576
  · by_cases hg : goodC p xs
    · have h0 := hg
      exact core_RegionsOf p v xs _ _ w hA hn (fun W u B T h hT => by obtain ⟨a0, cap, g0, rfl, _⟩ := h.pairs.view; exact sRegionsOf_yes p _ xs B T W h hT hg) (fun W u B T h hT => by obtain ⟨a0, cap, g0, rfl, _⟩ := h.pairs.view; exact iRegionsOf_yes p a0 cap xs B T W h hT hg)
    · exact core_RegionsOf p v xs _ _ w hA hn (fun W u B T h hT => by obtain ⟨a0, cap, g0, rfl, _⟩ := h.pairs.view; exact sRegionsOf_no p _ xs B T W h hT hg) (fun W u B T h hT => by obtain ⟨a0, cap, g0, rfl, _⟩ := h.pairs.view; exact iRegionsOf_no p a0 cap xs B T W h hT hg)
  · exact long_RegionsOf p v xs w hA hn

theorem walk_CountPieces (p : Int) (v : Value) (xs : List (Int × Int)) (w : World) (_ : (Lit.int .i64 p).wf = true) (hA : ArgP w v xs) :
    Calls Try.prog 7 #[.int .i64 p, v] w fun e w' => e = .returned (.bool true) ∧ Below w.heap.size w w' := by
  by_cases hn : xs.length ≤ 1048576
  · by_cases hg : goodC p xs
    · have he : ((piecesL xs xs.length : Nat) : Int) = (xs.length : Int) + 2 * ((allP xs xs.length).length : Int) := by rw [piecesL_all, allP_pairs]; omega
      exact core_CountPieces p v xs _ _ w hA hn (fun W u B T h hT => by obtain ⟨a0, cap, g0, rfl, _⟩ := h.pairs.view; exact he ▸ sPiecesAll_yes p a0 cap xs B T W h hT hg) (fun W u B T h hT => by obtain ⟨a0, cap, g0, rfl, _⟩ := h.pairs.view; exact iCountPieces_yes p a0 cap xs B T W h hT hg)
    · exact core_CountPieces p v xs _ _ w hA hn (fun W u B T h hT => by obtain ⟨a0, cap, g0, rfl, _⟩ := h.pairs.view; exact sPiecesAll_no p a0 cap xs B T W h hT hg) (fun W u B T h hT => by obtain ⟨a0, cap, g0, rfl, _⟩ := h.pairs.view; exact iCountPieces_no p a0 cap xs B T W h hT hg)
  · exact long_CountPieces p v xs w hA hn

theorem walk_PiecesOfChord (p : Int) (v : Value) (xs : List (Int × Int)) (k : Int) (w : World) (_ : (Lit.int .i64 p).wf = true) (hA : ArgP w v xs) (_ : (Lit.int .i64 k).wf = true) :
    Calls Try.prog 6 #[.int .i64 p, v, .int .i64 k] w fun e w' => e = .returned (.bool true) ∧ Below w.heap.size w w' := by
  by_cases hn : xs.length ≤ 1048576
  · by_cases hg : goodC p xs ∧ 0 ≤ k ∧ k < xs.length
    · obtain ⟨g1, g2, g3⟩ := hg
      obtain ⟨k, rfl⟩ := Int.eq_ofNat_of_zero_le g2
      have hk : k < xs.length := by omega
      exact core_PiecesOfChord p v xs k _ _ w hA hn (fun W u B T h hT => by obtain ⟨a0, cap, g0, rfl, _⟩ := h.pairs.view; exact sPieces1_yes p a0 cap xs B T W h hT g1 k hk) (fun W u B T h hT => by obtain ⟨a0, cap, g0, rfl, _⟩ := h.pairs.view; exact iPieces1_yes p a0 cap xs B T W h hT g1 k hk)
    · exact core_PiecesOfChord p v xs k _ _ w hA hn (fun W u B T h hT => by obtain ⟨a0, cap, g0, rfl, _⟩ := h.pairs.view; exact sPieces1_no p a0 cap xs B T W h hT k hn hg) (fun W u B T h hT => by obtain ⟨a0, cap, g0, rfl, _⟩ := h.pairs.view; exact iPieces1_no p a0 cap xs B T W h hT k hg)
  · exact long_PiecesOfChord p v xs k w hA hn

theorem walk_ArcsParted (p : Int) (v : Value) (xs : List (Int × Int)) (i j : Int) (w : World) (_ : (Lit.int .i64 p).wf = true) (hA : ArgP w v xs) (_ : (Lit.int .i64 i).wf = true) (_ : (Lit.int .i64 j).wf = true) :
    Calls Try.prog 8 #[.int .i64 p, v, .int .i64 i, .int .i64 j] w fun e w' => e = .returned (.bool true) ∧ Below w.heap.size w w' := by
  by_cases hn : xs.length ≤ 1048576
  · by_cases hg : goodC p xs ∧ (0 ≤ i ∧ i < p) ∧ (0 ≤ j ∧ j < p)
    · obtain ⟨g1, g2, g3⟩ := hg
      exact core_ArcsParted p v xs i j _ _ w hA hn (fun W u B T h hT => by obtain ⟨a0, cap, g0, rfl, _⟩ := h.pairs.view; exact sParted_yes p a0 cap xs B T W h hT g1 i j g2 g3) (fun W u B T h hT => by obtain ⟨a0, cap, g0, rfl, _⟩ := h.pairs.view; exact iParted_yes p a0 cap xs B T W h hT g1 i j g2 g3)
    · exact core_ArcsParted p v xs i j _ _ w hA hn (fun W u B T h hT => by obtain ⟨a0, cap, g0, rfl, _⟩ := h.pairs.view; exact sParted_no p a0 cap xs B T W h hT i j hg) (fun W u B T h hT => by obtain ⟨a0, cap, g0, rfl, _⟩ := h.pairs.view; exact iParted_no p a0 cap xs B T W h hT i j hg)
  · exact long_ArcsParted p v xs i j w hA hn

end Go.Proofs.Ytmfbbbnenngehaa
