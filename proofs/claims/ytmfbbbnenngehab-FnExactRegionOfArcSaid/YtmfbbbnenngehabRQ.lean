/- RegionOfArc: the model, the law. -/
import Derived.Test.YtmfbbbnenngehabRP
namespace Go.Proofs.Ytmfbbbnenngehab
open Go.RowKit
set_option linter.unusedVariables false

set_option maxHeartbeats 1000000 in
theorem sArc_yes (n : Nat) (a0 : Option Addr) (cap : Nat) (xs : List (Int × Int)) (B T : Nat) (w : World) (h : PairsIn 47 w B T (.slice a0 xs.length cap) xs) (hT : T ≤ w.heap.size) (i : Nat) (hi : i < n) (hg : goodC n xs) (hpl : allP xs xs.length = []) (v : Int) (hv : ((arcR xs (regL n xs) (arcC n i) : Nat) : Int) = v) :
    Calls Try.prog 23 #[.int .i64 n, .slice a0 xs.length cap, .int .i64 (i : Int)] w fun e w' => e = .returned (.tuple #[.int .i64 v, .bool true]) ∧ Below w.heap.size w w' := by
  have hn : 3 ≤ n ∧ n ≤ 60 := by have := hg.1; omega
  have hxl : xs.length ≤ 40 := hg.2.1
  have hsm := (regL_small hg hpl).2
  have HRW := Lib.hid (regL_rows hg hpl)
  have hlt := arcR_lt hg hpl (arcC_arc hn.1 hi)
  have HHR := Lib.hid (fun u B T W hW1 hW2 => reList_gives n u xs B T W hW1 hW2 hg hpl)
  have HS := Lib.hid (plane_yes (p := n) hpl)
  obtain ⟨L, hL⟩ : ∃ L, regL n xs = L := ⟨_, rfl⟩
  rw [hL] at hsm HRW hlt HHR hv
  obtain ⟨z, hz⟩ : ∃ z, arcR xs L (arcC n i) = z := ⟨_, rfl⟩
  rw [hz] at hv hlt
  subst hv
  have HZ := Lib.hid hz
  have hw : IntKind.i64.wrap ((n : Int) - 1) = (n : Int) - 1 := by rw [IntKind.wrap_i64]; omega
  have hd : decide ((0 : Int) ≤ (i : Int) ∧ (i : Int) ≤ (n : Int) - 1) = true := decide_eq_true (by omega)
  clear hL hz
  go_enter Try.func23, Try.ntmps23
  go_wp2_with (first
    | (go_at_call 32; (refine (planeM_yes n _ _ xs B T _ h hT hg).mono ?_); rw [HS.out]; rintro e w1 ⟨rfl, hb1⟩; have hz1 := hb1.size)
    | (go_at_call 41; (with_reducible refine (l1In_any (i : Int) 0 ((n : Int) - 1) true _ hd).mono ?_); rintro e wz ⟨rfl, rfl⟩)
    | (go_at_call 33; (with_reducible refine (HHR.out _ B T _ (h.keep (belowSame hb1 hT)) (by omega)).mono ?_); rintro e w2 ⟨v, rfl, hI, hb2⟩; have hB2 := hb1.trans (hb2.mono hz1); have hz2 := hB2.size; obtain ⟨vs, hR⟩ := hI; obtain ⟨ar, cr, gr, rfl, _⟩ := hR.view; have HR := Lib.hid hR; clear hR)
    | (go_at_call 42; (refine (reArc_any n i hi hn _ _ xs vs L B T _ _ _ (h.keep (belowSame hB2 hT)) (by omega) HR.out (Nat.le_refl _) HRW.out hsm hxl z HZ.out hlt).mono ?_); rintro e w3 ⟨rfl, hb3⟩))
  go_ret2
  exact ⟨rfl, hB2.trans (hb3.mono hz2)⟩

set_option maxHeartbeats 400000 in
theorem sArc_no (p : Int) (a0 : Option Addr) (cap : Nat) (xs : List (Int × Int)) (B T : Nat) (w : World) (h : PairsIn 47 w B T (.slice a0 xs.length cap) xs) (hT : T ≤ w.heap.size) (i : Int) (hg : ¬ (0 ≤ i ∧ i < p ∧ goodC p xs ∧ allP xs xs.length = [])) :
    Calls Try.prog 23 #[.int .i64 p, .slice a0 xs.length cap, .int .i64 i] w fun e w' => e = .returned (.tuple #[.int .i64 0, .bool false]) ∧ Below w.heap.size w w' := by
  by_cases hg2 : goodC p xs
  · by_cases hpl : allP xs xs.length = []
    · have hi : ¬ (0 ≤ i ∧ i ≤ p - 1) := fun h => hg ⟨h.1, by omega, hg2, hpl⟩
      have HS := Lib.hid (plane_yes (p := p) hpl)
      have hp := hg2.1
      have hw : IntKind.i64.wrap (p - 1) = p - 1 := by rw [IntKind.wrap_i64]; omega
      have hd : decide ((0 : Int) ≤ i ∧ i ≤ p - 1) = false := decide_eq_false hi
      clear hg
      go_enter Try.func23, Try.ntmps23
      go_wp2_with (first | (go_at_call 32; (refine (planeM_yes p _ _ xs B T _ h hT hg2).mono ?_); rw [HS.out]; rintro e w1 ⟨rfl, hb1⟩) | (go_at_call 41; (with_reducible refine (l1In_any i 0 (p - 1) false _ hd).mono ?_); rintro e wz ⟨rfl, rfl⟩))
      go_ret2
      exact ⟨rfl, hb1⟩
    · have HS := Lib.hid (plane_no (p := p) hpl)
      clear hg
      go_enter Try.func23, Try.ntmps23
      go_wp2_with (first | (go_at_call 32; (refine (planeM_yes p _ _ xs B T _ h hT hg2).mono ?_); rw [HS.out]; rintro e w1 ⟨rfl, hb1⟩))
      go_ret2
      exact ⟨rfl, hb1⟩
  · clear hg
    go_enter Try.func23, Try.ntmps23
    go_wp2_with (first | (go_at_call 32; (with_reducible refine (planeM_no p _ _ xs B T _ h hT hg2).mono ?_); rintro e w1 ⟨rfl, hb1⟩))
    go_ret2
    exact ⟨rfl, hb1⟩

set_option maxHeartbeats 1000000 in
theorem core_RegionOfArc (p : Int) (v : Value) (xs : List (Int × Int)) (i : Int) (x : Int) (b : Bool) (w : World) (hA : ArgP w v xs) (hn : xs.length ≤ 1048576)
    (hs : ∀ (W : World) (u : Value) (B T : Nat), PairsIn 47 W B T u xs → T ≤ W.heap.size → Calls Try.prog 23 #[.int .i64 p, u, .int .i64 i] W (fun e w' => e = .returned (.tuple #[.int .i64 x, .bool b]) ∧ Below W.heap.size W w'))
    (hi : ∀ (W : World) (u : Value) (B T : Nat), PairsIn 47 W B T u xs → T ≤ W.heap.size → Calls Try.prog 24 #[.int .i64 p, u, .int .i64 i] W (fun e w' => e = .returned (.tuple #[.int .i64 x, .bool b]) ∧ Below W.heap.size W w')) :
    Calls Try.prog 5 #[.int .i64 p, v, .int .i64 i] w fun e w' => e = .returned (.bool true) ∧ Below w.heap.size w w' := by
  have hA1 := hA
  obtain ⟨a0, cap, a, rfl, _⟩ := hA1
  have HS := Lib.hid hs
  have HI := Lib.hid hi
  have HA := Lib.hid hA
  clear hs hi hA
  go_enter Try.func5, Try.ntmps5
  go_wp2_with fail
  refine (szChordS_yes _ _ _ _ hn).mono ?_
  rintro e w0 ⟨rfl, rfl⟩
  go_wp2_with fail
  refine (toChordS_any _ _ _ (HA.out.later (by go_grown)) hn).mono ?_
  rintro e w1 ⟨va, rfl, ka_1, hb1⟩
  have n1 : w.heap.size ≤ w1.heap.size := by have := hb1.size; (try simp at this); omega
  have B1 : Below w.heap.size w w1 := Below.trans (by go_grown) (hb1.mono (by first | (simp; done) | (simp; omega)))
  go_wp2_with fail
  refine (HS.out _ _ _ _ ka_1 (by omega)).mono ?_
  rintro e w2 ⟨rfl, hb2⟩
  have n2 := hb2.size
  have B2 := B1.trans (hb2.mono (by omega))
  have ka_2 := ka_1.keep (belowSame hb2 (by omega))
  go_wp2_with fail
  refine (toChordS_any _ _ _ (HA.out.later B2) hn).mono ?_
  rintro e w3 ⟨vc, rfl, kc_3, hb3⟩
  have n3 := hb3.size
  have B3 := B2.trans (hb3.mono (by omega))
  have ka_3 := ka_2.keep (belowSame hb3 (by omega))
  go_wp2_with fail
  refine (HI.out _ _ _ _ kc_3 (by omega)).mono ?_
  rintro e w4 ⟨rfl, hb4⟩
  have n4 := hb4.size
  have B4 := B3.trans (hb4.mono (by omega))
  have ka_4 := ka_3.keep (belowSame hb4 (by omega))
  have kc_4 := kc_3.keep (belowSame hb4 (by omega))
  go_wp2_with fail
  refine (toChordS_any _ _ _ (HA.out.later B4) hn).mono ?_
  rintro e w5 ⟨vd, rfl, kd_5, hb5⟩
  have n5 := hb5.size
  have B5 := B4.trans (hb5.mono (by omega))
  have ka_5 := ka_4.keep (belowSame hb5 (by omega))
  have kc_5 := kc_4.keep (belowSame hb5 (by omega))
  go_wp2_with fail
  refine (eqChordS_in _ _ _ _ _ _ _ _ _ kc_5 kd_5).mono ?_
  rintro e w6 ⟨rfl, hb6⟩
  have n6 := hb6.size
  have B6 := B5.trans (hb6.mono (by omega))
  have ka_6 := ka_5.keep (belowSame hb6 (by omega))
  have kc_6 := kc_5.keep (belowSame hb6 (by omega))
  have kd_6 := kd_5.keep (belowSame hb6 (by omega))
  go_wp2_with fail
  go_ret
  exact ⟨rfl, B6⟩

set_option maxHeartbeats 400000 in
theorem long_RegionOfArc (p : Int) (v : Value) (xs : List (Int × Int)) (i : Int) (w : World) (hA : ArgP w v xs) (hn : ¬ xs.length ≤ 1048576) :
    Calls Try.prog 5 #[.int .i64 p, v, .int .i64 i] w fun e w' => e = .returned (.bool true) ∧ Below w.heap.size w w' := by
  obtain ⟨a0, cap, a, rfl, _, hm, _⟩ := hA
  go_enter Try.func5, Try.ntmps5
  go_wp2_with fail
  refine (szChordS_no _ _ _ _ (by omega) hm).mono ?_
  rintro e w0 ⟨rfl, rfl⟩
  go_wp2_with fail
  go_ret
  exact ⟨rfl, by go_grown⟩

theorem walk_RegionOfArc (p : Int) (v : Value) (xs : List (Int × Int)) (i : Int) (w : World) (_ : (Lit.int .i64 p).wf = true) (hA : ArgP w v xs) (_ : (Lit.int .i64 i).wf = true) :
    Calls Try.prog 5 #[.int .i64 p, v, .int .i64 i] w fun e w' => e = .returned (.bool true) ∧ Below w.heap.size w w' := by
  by_cases hn : xs.length ≤ 1048576
  · by_cases hg : 0 ≤ i ∧ i < p ∧ goodC p xs ∧ allP xs xs.length = []
    · obtain ⟨h0, h1, hg2, hpl⟩ := hg
      obtain ⟨n, rfl⟩ := Int.eq_ofNat_of_zero_le (show 0 ≤ p by omega)
      obtain ⟨j, rfl⟩ := Int.eq_ofNat_of_zero_le h0
      have hj : j < n := by omega
      exact core_RegionOfArc _ v xs _ ((arcR xs (regL n xs) (arcC n j) : Nat) : Int) true w hA hn (fun W u B T h hT => by obtain ⟨a0, cap, g0, rfl, _⟩ := h.pairs.view; exact sArc_yes n a0 cap xs B T W h hT j hj hg2 hpl _ rfl) (fun W u B T h hT => by obtain ⟨a0, cap, g0, rfl, _⟩ := h.pairs.view; exact iArc_yes n a0 cap xs B T W h hT j hj hg2 hpl _ rfl)
    · exact core_RegionOfArc p v xs i 0 false w hA hn (fun W u B T h hT => by obtain ⟨a0, cap, g0, rfl, _⟩ := h.pairs.view; exact sArc_no p a0 cap xs B T W h hT i hg) (fun W u B T h hT => by obtain ⟨a0, cap, g0, rfl, _⟩ := h.pairs.view; exact iArc_no p a0 cap xs B T W h hT i hg)
  · exact long_RegionOfArc p v xs i w hA hn
end Go.Proofs.Ytmfbbbnenngehab
