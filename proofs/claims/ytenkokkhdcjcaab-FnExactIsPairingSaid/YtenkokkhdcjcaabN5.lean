/- IsPairing: the law. -/
import Derived.Test.YtenkokkhdcjcaabN4
namespace Go.Proofs.Ytenkokkhdcjcaab
open Go.RowKit
set_option linter.unusedVariables false

set_option maxHeartbeats 400000 in
theorem sIsPairing_yes (n : Nat) (u : Value) (xs : List (Int × Int)) (B T : Nat) (w : World) (h : PairsIn 62 w B T u xs) (hT : T ≤ w.heap.size) (hg : goodC n xs) : Calls Try.prog 18 #[.int .i64 n, u] w fun e w' => e = .returned (.tuple #[.bool (onceAll n (flatP xs)), .bool true]) ∧ Below w.heap.size w w' := by
  go_enter Try.func18, Try.ntmps18
  go_wp2_with (first | (go_at_call 51; (with_reducible refine (cdGood_yes _ u xs B T _ h hg).mono ?_); rintro e w1 ⟨rfl, hb1⟩; have h1 := h.keep (belowSame hb1 hT); have hz1 := hb1.size) | (go_at_call 52; (with_reducible refine (cdPairing_any n u xs B T _ h1 hg).mono ?_); rintro e w2 ⟨rfl, hb2⟩; have hB2 := hb1.trans (hb2.mono hz1)))
  go_ret2
  exact ⟨rfl, hB2⟩

set_option maxHeartbeats 400000 in
theorem sIsPairing_no (p : Int) (u : Value) (xs : List (Int × Int)) (B T : Nat) (w : World) (h : PairsIn 62 w B T u xs) (hT : T ≤ w.heap.size) (hg : ¬ goodC p xs) : Calls Try.prog 18 #[.int .i64 p, u] w fun e w' => e = .returned (.tuple #[.bool false, .bool false]) ∧ Below w.heap.size w w' := by
  go_enter Try.func18, Try.ntmps18
  go_wp2_with (first | (go_at_call 51; (with_reducible refine (cdGood_no p u xs B T _ h hg).mono ?_); rintro e w1 ⟨rfl, hb1⟩))
  go_ret2
  exact ⟨rfl, hb1⟩

set_option maxHeartbeats 400000 in
theorem iIsPairing_yes (n : Nat) (u : Value) (xs : List (Int × Int)) (B T : Nat) (w : World) (h : PairsIn 62 w B T u xs) (hT : T ≤ w.heap.size) (hg : goodC n xs) : Calls Try.prog 20 #[.int .i64 n, u] w fun e w' => e = .returned (.tuple #[.bool (onceAll n (flatP xs)), .bool true]) ∧ Below w.heap.size w w' := by
  go_enter Try.func20, Try.ntmps20
  go_wp2_with (first | (go_at_call 54; (with_reducible refine (AreChords_yes _ u xs B T _ h hg).mono ?_); rintro e w1 ⟨rfl, hb1⟩; have h1 := h.keep (belowSame hb1 hT); have hz1 := hb1.size) | (go_at_call 55; (with_reducible refine (joins_any n u xs B T _ h1 hg).mono ?_); rintro e w2 ⟨rfl, hb2⟩; have hB2 := hb1.trans (hb2.mono hz1)))
  go_ret2
  exact ⟨rfl, hB2⟩

set_option maxHeartbeats 400000 in
theorem iIsPairing_no (p : Int) (u : Value) (xs : List (Int × Int)) (B T : Nat) (w : World) (h : PairsIn 62 w B T u xs) (hT : T ≤ w.heap.size) (hg : ¬ goodC p xs) : Calls Try.prog 20 #[.int .i64 p, u] w fun e w' => e = .returned (.tuple #[.bool false, .bool false]) ∧ Below w.heap.size w w' := by
  go_enter Try.func20, Try.ntmps20
  go_wp2_with (first | (go_at_call 54; (with_reducible refine (AreChords_no p u xs B T _ h hg).mono ?_); rintro e w1 ⟨rfl, hb1⟩))
  go_ret2
  exact ⟨rfl, hb1⟩

set_option maxHeartbeats 1000000 in
theorem core_IsPairing (p : Int) (v : Value) (xs : List (Int × Int)) (x : Bool) (b : Bool) (w : World) (hA : ArgP w v xs) (hn : xs.length ≤ 1048576)
    (hs : ∀ (W : World) (u : Value) (B T : Nat), PairsIn 62 W B T u xs → T ≤ W.heap.size → Calls Try.prog 18 #[.int .i64 p, u] W (fun e w' => e = .returned (.tuple #[.bool x, .bool b]) ∧ Below W.heap.size W w'))
    (hi : ∀ (W : World) (u : Value) (B T : Nat), PairsIn 62 W B T u xs → T ≤ W.heap.size → Calls Try.prog 20 #[.int .i64 p, u] W (fun e w' => e = .returned (.tuple #[.bool x, .bool b]) ∧ Below W.heap.size W w')) :
    Calls Try.prog 5 #[.int .i64 p, v] w fun e w' => e = .returned (.bool true) ∧ Below w.heap.size w w' := by
  have hA1 := hA
  obtain ⟨a0, cap, a, rfl, _⟩ := hA1
  have HS := Lib.hid hs
  have HI := Lib.hid hi
  have HA := Lib.hid hA
  clear hs hi hA
  go_enter Try.func5, Try.ntmps5
  go_wp2_with fail
  refine (szChordS_yes _ _ _ _ hn).mono ?_
  rintro e w0 ⟨rfl, rfl⟩
  go_wp2_with fail
  refine (toChordS_any _ _ _ (HA.out.later (by go_grown)) hn).mono ?_
  rintro e w1 ⟨va, rfl, ka_1, hb1⟩
  have n1 : w.heap.size ≤ w1.heap.size := by have := hb1.size; (try simp at this); omega
  have B1 : Below w.heap.size w w1 := Below.trans (by go_grown) (hb1.mono (by first | (simp; done) | (simp; omega)))
  go_wp2_with fail
  refine (HS.out _ _ _ _ ka_1 (by omega)).mono ?_
  rintro e w2 ⟨rfl, hb2⟩
  have n2 := hb2.size
  have B2 := B1.trans (hb2.mono (by omega))
  have ka_2 := ka_1.keep (belowSame hb2 (by omega))
  go_wp2_with fail
  refine (toChordS_any _ _ _ (HA.out.later B2) hn).mono ?_
  rintro e w3 ⟨vc, rfl, kc_3, hb3⟩
  have n3 := hb3.size
  have B3 := B2.trans (hb3.mono (by omega))
  have ka_3 := ka_2.keep (belowSame hb3 (by omega))
  go_wp2_with fail
  refine (HI.out _ _ _ _ kc_3 (by omega)).mono ?_
  rintro e w4 ⟨rfl, hb4⟩
  have n4 := hb4.size
  have B4 := B3.trans (hb4.mono (by omega))
  have ka_4 := ka_3.keep (belowSame hb4 (by omega))
  have kc_4 := kc_3.keep (belowSame hb4 (by omega))
  go_wp2_with fail
  refine (toChordS_any _ _ _ (HA.out.later B4) hn).mono ?_
  rintro e w5 ⟨vd, rfl, kd_5, hb5⟩
  have n5 := hb5.size
  have B5 := B4.trans (hb5.mono (by omega))
  have ka_5 := ka_4.keep (belowSame hb5 (by omega))
  have kc_5 := kc_4.keep (belowSame hb5 (by omega))
  go_wp2_with fail
  refine (eqChordS_in _ _ _ _ _ _ _ _ _ kc_5 kd_5).mono ?_
  rintro e w6 ⟨rfl, hb6⟩
  have n6 := hb6.size
  have B6 := B5.trans (hb6.mono (by omega))
  have ka_6 := ka_5.keep (belowSame hb6 (by omega))
  have kc_6 := kc_5.keep (belowSame hb6 (by omega))
  have kd_6 := kd_5.keep (belowSame hb6 (by omega))
  go_wp2_with fail
  go_ret
  exact ⟨rfl, B6⟩

set_option maxHeartbeats 400000 in
theorem long_IsPairing (p : Int) (v : Value) (xs : List (Int × Int)) (w : World) (hA : ArgP w v xs) (hn : ¬ xs.length ≤ 1048576) :
    Calls Try.prog 5 #[.int .i64 p, v] w fun e w' => e = .returned (.bool true) ∧ Below w.heap.size w w' := by
  obtain ⟨a0, cap, a, rfl, _, hm, _⟩ := hA
  go_enter Try.func5, Try.ntmps5
  go_wp2_with fail
  refine (szChordS_no _ _ _ _ (by omega) hm).mono ?_
  rintro e w0 ⟨rfl, rfl⟩
  go_wp2_with fail
  go_ret
  exact ⟨rfl, by go_grown⟩

theorem walk_IsPairing (p : Int) (v : Value) (xs : List (Int × Int)) (w : World) (_ : (Lit.int .i64 p).wf = true) (hA : ArgP w v xs) :
    Calls Try.prog 5 #[.int .i64 p, v] w fun e w' => e = .returned (.bool true) ∧ Below w.heap.size w w' := by
  by_cases hn : xs.length ≤ 1048576
  · by_cases hg : goodC p xs
    · obtain ⟨n, rfl⟩ := Int.eq_ofNat_of_zero_le (show 0 ≤ p by have := hg.1; omega)
      exact core_IsPairing _ v xs _ _ w hA hn (fun W u B T h hT => sIsPairing_yes n u xs B T W h hT hg) (fun W u B T h hT => iIsPairing_yes n u xs B T W h hT hg)
    · exact core_IsPairing p v xs _ _ w hA hn (fun W u B T h hT => sIsPairing_no p u xs B T W h hT hg) (fun W u B T h hT => iIsPairing_no p u xs B T W h hT hg)
  · exact long_IsPairing p v xs w hA hn

end Go.Proofs.Ytenkokkhdcjcaab
