/- Whether a point is under threads: the law. -/
import Derived.Test.YtngonpiiehmlaaaU7
namespace Go.Proofs.Ytngonpiiehmlaaa
open Go.RowKit
set_option linter.unusedVariables false

set_option maxHeartbeats 1000000 in
theorem iIsUnder_yes (u : Value) (xs : List (Int × Int)) (B T : Nat) (w : World) (h : PairsIn 37 w B T u xs) (hT : T ≤ w.heap.size) (x y : Int) (hg : goodT xs) (hx : 0 ≤ x ∧ x ≤ 100) (hy : 0 ≤ y ∧ y ≤ 100) :
    Calls Try.prog 35 #[u, .int .i64 x, .int .i64 y] w fun e w' => e = .returned (.tuple #[.bool (xs.any (underP x y)), .bool true]) ∧ Below w.heap.size w w' := by
  have HG := Lib.hid hg
  have HX := Lib.hid hx
  have HY := Lib.hid hy
  have HU2 := Lib.hid (h.keep (w' := ((w.alloc (.cells #[.int .i64 x] 3)).alloc (.cells #[.int .i64 y] 3))) (belowSame (show Below w.heap.size w ((w.alloc (.cells #[.int .i64 x] 3)).alloc (.cells #[.int .i64 y] 3)) by go_grown) hT))
  obtain ⟨a1, c1, g1, rfl, _⟩ := h.pairs.view
  clear h hg hx hy
  go_enter Try.func35, Try.ntmps35
  go_wp2_with (first
    | (go_at_call 18; (with_reducible refine (AreThreads_yes _ _ B T _ HU2.out HG.out).mono ?_); rintro e w1 ⟨rfl, hb1⟩; (have c0 : w1.cell? ⟨w.heap.size, 0, none⟩ = some (.int .i64 x) := cellB hb1 (by first | assumption | go_simp)); (have c1 : w1.cell? ⟨w.heap.size + 1, 0, none⟩ = some (.int .i64 y) := cellB hb1 (by first | assumption | go_simp)); (have hz1 : w.heap.size + 2 ≤ w1.heap.size := by (have := hb1.size; (try simp at this); omega)); (have hB1 : Below w.heap.size w w1 := by (refine Below.trans ?_ (hb1.mono (by first | (simp; done) | omega | (simp; omega))); go_grown)); have HU1 := Lib.hid (HU2.out.keep (belowSame hb1 (by simp; omega))); clear hb1)
    | (go_at_call 63; (with_reducible refine (isPlace_yes _ _ HX.out).mono ?_); rintro e w1 ⟨rfl, rfl⟩)
    | (go_at_call 63; (with_reducible refine (isPlace_yes _ _ HY.out).mono ?_); rintro e w1 ⟨rfl, rfl⟩)
    | (go_at_call 64; (refine (hasUnder_any _ xs B T _ HU1.out (by omega) x y _ _ HG.out HX.out HY.out c0 c1).mono ?_); rintro e w2 ⟨rfl, hb2⟩))
  go_ret2
  exact ⟨rfl, hB1.trans (hb2.mono (by omega))⟩

set_option maxHeartbeats 1000000 in
theorem sIsUnder_yes (u : Value) (xs : List (Int × Int)) (B T : Nat) (w : World) (h : PairsIn 37 w B T u xs) (hT : T ≤ w.heap.size) (x y : Int) (hg : goodT xs) (hx : 0 ≤ x ∧ x ≤ 100) (hy : 0 ≤ y ∧ y ≤ 100) :
    Calls Try.prog 34 #[u, .int .i64 x, .int .i64 y] w fun e w' => e = .returned (.tuple #[.bool (xs.any (underP x y)), .bool true]) ∧ Below w.heap.size w w' := by
  have HG := Lib.hid hg
  have HX := Lib.hid hx
  have HY := Lib.hid hy
  have HU := Lib.hid h
  obtain ⟨a1, c1, g1, rfl, _⟩ := h.pairs.view
  clear h hg hx hy
  go_enter Try.func34, Try.ntmps34
  go_wp2_with (first
    | (go_at_call 48; (with_reducible refine (sgGood_yes _ _ B T _ HU.out HG.out).mono ?_); rintro e w1 ⟨rfl, hb1⟩; have HU1 := Lib.hid (HU.out.keep (belowSame hb1 hT)); have hz1 := hb1.size)
    | (go_at_call 52; (with_reducible refine (l1In_yes _ _ _ _ HX.out).mono ?_); rintro e w1 ⟨rfl, rfl⟩)
    | (go_at_call 52; (with_reducible refine (l1In_yes _ _ _ _ HY.out).mono ?_); rintro e w1 ⟨rfl, rfl⟩)
    | (go_at_call 62; (refine (sgUnder_any _ xs B T _ HU1.out (by omega) x y HG.out HX.out HY.out).mono ?_); rintro e w2 ⟨rfl, hb2⟩))
  go_ret2
  exact ⟨rfl, hb1.trans (hb2.mono hz1)⟩

set_option maxHeartbeats 1000000 in
theorem iIsUnder_no (u : Value) (xs : List (Int × Int)) (B T : Nat) (w : World) (h : PairsIn 37 w B T u xs) (hT : T ≤ w.heap.size) (x y : Int) (hb : ¬ (goodT xs ∧ (0 ≤ x ∧ x ≤ 100) ∧ (0 ≤ y ∧ y ≤ 100))) :
    Calls Try.prog 35 #[u, .int .i64 x, .int .i64 y] w fun e w' => e = .returned (.tuple #[.bool false, .bool false]) ∧ Below w.heap.size w w' := by
  have HU2 := Lib.hid (h.keep (w' := ((w.alloc (.cells #[.int .i64 x] 3)).alloc (.cells #[.int .i64 y] 3))) (belowSame (show Below w.heap.size w ((w.alloc (.cells #[.int .i64 x] 3)).alloc (.cells #[.int .i64 y] 3)) by go_grown) hT))
  have HU := Lib.hid h
  obtain ⟨a1, c1, g1, rfl, _⟩ := h.pairs.view
  by_cases hg : goodT xs
  · have HG := Lib.hid hg
    by_cases hx : 0 ≤ x ∧ x ≤ 100
    · have HX := Lib.hid hx
      have HY := Lib.hid (fun e => hb ⟨hg, hx, e⟩)
      clear h hb hg hx
      go_enter Try.func35, Try.ntmps35
      go_wp2_with (first
        | (go_at_call 18; (with_reducible refine (AreThreads_yes _ _ B T _ HU2.out HG.out).mono ?_); rintro e w1 ⟨rfl, hb1⟩; (have c0 : w1.cell? ⟨w.heap.size, 0, none⟩ = some (.int .i64 x) := cellB hb1 (by first | assumption | go_simp)); (have c1 : w1.cell? ⟨w.heap.size + 1, 0, none⟩ = some (.int .i64 y) := cellB hb1 (by first | assumption | go_simp)); (have hz1 : w.heap.size + 2 ≤ w1.heap.size := by (have := hb1.size; (try simp at this); omega)); (have hB1 : Below w.heap.size w w1 := by (refine Below.trans ?_ (hb1.mono (by first | (simp; done) | omega | (simp; omega))); go_grown)); clear hb1)
        | (go_at_call 63; (with_reducible refine (isPlace_yes _ _ HX.out).mono ?_); rintro e w1 ⟨rfl, rfl⟩)
        | (go_at_call 63; (with_reducible refine (isPlace_no _ _ HY.out).mono ?_); rintro e w1 ⟨rfl, rfl⟩)
        )
      go_ret2
      exact ⟨rfl, hB1⟩
    · have HX := Lib.hid hx
      clear h hb hg hx
      go_enter Try.func35, Try.ntmps35
      go_wp2_with (first
        | (go_at_call 18; (with_reducible refine (AreThreads_yes _ _ B T _ HU2.out HG.out).mono ?_); rintro e w1 ⟨rfl, hb1⟩; (have c0 : w1.cell? ⟨w.heap.size, 0, none⟩ = some (.int .i64 x) := cellB hb1 (by first | assumption | go_simp)); (have c1 : w1.cell? ⟨w.heap.size + 1, 0, none⟩ = some (.int .i64 y) := cellB hb1 (by first | assumption | go_simp)); (have hz1 : w.heap.size + 2 ≤ w1.heap.size := by (have := hb1.size; (try simp at this); omega)); (have hB1 : Below w.heap.size w w1 := by (refine Below.trans ?_ (hb1.mono (by first | (simp; done) | omega | (simp; omega))); go_grown)); clear hb1)
        | (go_at_call 63; (with_reducible refine (isPlace_no _ _ HX.out).mono ?_); rintro e w1 ⟨rfl, rfl⟩)
        )
      go_ret2
      exact ⟨rfl, hB1⟩
  · have HG := Lib.hid hg
    clear h hb hg
    go_enter Try.func35, Try.ntmps35
    go_wp2_with (first
      | (go_at_call 18; (with_reducible refine (AreThreads_no _ _ B T _ HU2.out HG.out).mono ?_); rintro e w1 ⟨rfl, hb1⟩; (have c0 : w1.cell? ⟨w.heap.size, 0, none⟩ = some (.int .i64 x) := cellB hb1 (by first | assumption | go_simp)); (have c1 : w1.cell? ⟨w.heap.size + 1, 0, none⟩ = some (.int .i64 y) := cellB hb1 (by first | assumption | go_simp)); (have hz1 : w.heap.size + 2 ≤ w1.heap.size := by (have := hb1.size; (try simp at this); omega)); (have hB1 : Below w.heap.size w w1 := by (refine Below.trans ?_ (hb1.mono (by first | (simp; done) | omega | (simp; omega))); go_grown)); clear hb1)
      )
    go_ret2
    exact ⟨rfl, hB1⟩

set_option maxHeartbeats 1000000 in
theorem sIsUnder_no (u : Value) (xs : List (Int × Int)) (B T : Nat) (w : World) (h : PairsIn 37 w B T u xs) (hT : T ≤ w.heap.size) (x y : Int) (hb : ¬ (goodT xs ∧ (0 ≤ x ∧ x ≤ 100) ∧ (0 ≤ y ∧ y ≤ 100))) :
    Calls Try.prog 34 #[u, .int .i64 x, .int .i64 y] w fun e w' => e = .returned (.tuple #[.bool false, .bool false]) ∧ Below w.heap.size w w' := by
  have HU2 := Lib.hid (h.keep (w' := ((w.alloc (.cells #[.int .i64 x] 3)).alloc (.cells #[.int .i64 y] 3))) (belowSame (show Below w.heap.size w ((w.alloc (.cells #[.int .i64 x] 3)).alloc (.cells #[.int .i64 y] 3)) by go_grown) hT))
  have HU := Lib.hid h
  obtain ⟨a1, c1, g1, rfl, _⟩ := h.pairs.view
  by_cases hg : goodT xs
  · have HG := Lib.hid hg
    by_cases hx : 0 ≤ x ∧ x ≤ 100
    · have HX := Lib.hid hx
      have HY := Lib.hid (fun e => hb ⟨hg, hx, e⟩)
      clear h hb hg hx
      go_enter Try.func34, Try.ntmps34
      go_wp2_with (first
        | (go_at_call 48; (with_reducible refine (sgGood_yes _ _ B T _ HU.out HG.out).mono ?_); rintro e w1 ⟨rfl, hb1⟩; have hB1 := hb1)
        | (go_at_call 52; (with_reducible refine (l1In_yes _ _ _ _ HX.out).mono ?_); rintro e w1 ⟨rfl, rfl⟩)
        | (go_at_call 52; (with_reducible refine (l1In_no _ _ _ _ HY.out).mono ?_); rintro e w1 ⟨rfl, rfl⟩)
        )
      go_ret2
      exact ⟨rfl, hB1⟩
    · have HX := Lib.hid hx
      clear h hb hg hx
      go_enter Try.func34, Try.ntmps34
      go_wp2_with (first
        | (go_at_call 48; (with_reducible refine (sgGood_yes _ _ B T _ HU.out HG.out).mono ?_); rintro e w1 ⟨rfl, hb1⟩; have hB1 := hb1)
        | (go_at_call 52; (with_reducible refine (l1In_no _ _ _ _ HX.out).mono ?_); rintro e w1 ⟨rfl, rfl⟩)
        )
      go_ret2
      exact ⟨rfl, hB1⟩
  · have HG := Lib.hid hg
    clear h hb hg
    go_enter Try.func34, Try.ntmps34
    go_wp2_with (first
      | (go_at_call 48; (with_reducible refine (sgGood_no _ _ B T _ HU.out HG.out).mono ?_); rintro e w1 ⟨rfl, hb1⟩; have hB1 := hb1)
      )
    go_ret2
    exact ⟨rfl, hB1⟩

set_option maxHeartbeats 1000000 in
theorem core_IsUnder (v : Value) (xs : List (Int × Int)) (k : Int) (l : Int) (x : Bool) (b : Bool) (w : World) (hA : ArgP w v xs) (hn : xs.length ≤ 1048576)
    (hs : ∀ (W : World) (u : Value) (B T : Nat), PairsIn 37 W B T u xs → T ≤ W.heap.size → Calls Try.prog 34 #[u, .int .i64 k, .int .i64 l] W (fun e w' => e = .returned (.tuple #[.bool x, .bool b]) ∧ Below W.heap.size W w'))
    (hi : ∀ (W : World) (u : Value) (B T : Nat), PairsIn 37 W B T u xs → T ≤ W.heap.size → Calls Try.prog 35 #[u, .int .i64 k, .int .i64 l] W (fun e w' => e = .returned (.tuple #[.bool x, .bool b]) ∧ Below W.heap.size W w')) :
    Calls Try.prog 8 #[v, .int .i64 k, .int .i64 l] w fun e w' => e = .returned (.bool true) ∧ Below w.heap.size w w' := by
  have hA1 := hA
  obtain ⟨a0, cap, a, rfl, _⟩ := hA1
  have HS := Lib.hid hs
  have HI := Lib.hid hi
  have HA := Lib.hid hA
  clear hs hi hA
  go_enter Try.func8, Try.ntmps8
  go_wp2_with fail
  refine (szThreadS_yes _ _ _ _ hn).mono ?_
  rintro e w0 ⟨rfl, rfl⟩
  go_wp2_with fail
  refine (toThreadS_any _ _ _ (HA.out.later (by go_grown)) hn).mono ?_
  rintro e w1 ⟨va, rfl, ka_1, hb1⟩
  have n1 : w.heap.size ≤ w1.heap.size := by have := hb1.size; (try simp at this); omega
  have B1 : Below w.heap.size w w1 := Below.trans (by go_grown) (hb1.mono (by first | (simp; done) | (simp; omega)))
  go_wp2_with fail
  refine (HS.out _ _ _ _ ka_1 (by omega)).mono ?_
  rintro e w2 ⟨rfl, hb2⟩
  have n2 := hb2.size
  have B2 := B1.trans (hb2.mono (by omega))
  have ka_2 := ka_1.keep (belowSame hb2 (by omega))
  go_wp2_with fail
  refine (toThreadS_any _ _ _ (HA.out.later B2) hn).mono ?_
  rintro e w3 ⟨vc, rfl, kc_3, hb3⟩
  have n3 := hb3.size
  have B3 := B2.trans (hb3.mono (by omega))
  have ka_3 := ka_2.keep (belowSame hb3 (by omega))
  go_wp2_with fail
  refine (HI.out _ _ _ _ kc_3 (by omega)).mono ?_
  rintro e w4 ⟨rfl, hb4⟩
  have n4 := hb4.size
  have B4 := B3.trans (hb4.mono (by omega))
  have ka_4 := ka_3.keep (belowSame hb4 (by omega))
  have kc_4 := kc_3.keep (belowSame hb4 (by omega))
  go_wp2_with fail
  refine (toThreadS_any _ _ _ (HA.out.later B4) hn).mono ?_
  rintro e w5 ⟨vd, rfl, kd_5, hb5⟩
  have n5 := hb5.size
  have B5 := B4.trans (hb5.mono (by omega))
  have ka_5 := ka_4.keep (belowSame hb5 (by omega))
  have kc_5 := kc_4.keep (belowSame hb5 (by omega))
  go_wp2_with fail
  refine (eqThreadS_in _ _ _ _ _ _ _ _ _ kc_5 kd_5).mono ?_
  rintro e w6 ⟨rfl, hb6⟩
  have n6 := hb6.size
  have B6 := B5.trans (hb6.mono (by omega))
  have ka_6 := ka_5.keep (belowSame hb6 (by omega))
  have kc_6 := kc_5.keep (belowSame hb6 (by omega))
  have kd_6 := kd_5.keep (belowSame hb6 (by omega))
  go_wp2_with fail
  go_ret
  exact ⟨rfl, B6⟩

set_option maxHeartbeats 400000 in
theorem long_IsUnder (v : Value) (xs : List (Int × Int)) (k : Int) (l : Int) (w : World) (hA : ArgP w v xs) (hn : ¬ xs.length ≤ 1048576) :
    Calls Try.prog 8 #[v, .int .i64 k, .int .i64 l] w fun e w' => e = .returned (.bool true) ∧ Below w.heap.size w w' := by
  obtain ⟨a0, cap, a, rfl, _, hm, _⟩ := hA
  go_enter Try.func8, Try.ntmps8
  go_wp2_with fail
  refine (szThreadS_no _ _ _ _ (by omega) hm).mono ?_
  rintro e w0 ⟨rfl, rfl⟩
  go_wp2_with fail
  go_ret
  exact ⟨rfl, by go_grown⟩

theorem walk_IsUnder (v : Value) (xs : List (Int × Int)) (k l : Int) (w : World) (hA : ArgP w v xs) (_ : (Lit.int .i64 k).wf = true) (_ : (Lit.int .i64 l).wf = true) :
    Calls Try.prog 8 #[v, .int .i64 k, .int .i64 l] w fun e w' => e = .returned (.bool true) ∧ Below w.heap.size w w' := by
  by_cases hn : xs.length ≤ 1048576
  · by_cases hg : goodT xs ∧ (0 ≤ k ∧ k ≤ 100) ∧ (0 ≤ l ∧ l ≤ 100)
    · exact core_IsUnder v xs k l _ true w hA hn (fun W u B T h hT => sIsUnder_yes u xs B T W h hT k l hg.1 hg.2.1 hg.2.2) (fun W u B T h hT => iIsUnder_yes u xs B T W h hT k l hg.1 hg.2.1 hg.2.2)
    · exact core_IsUnder v xs k l false false w hA hn (fun W u B T h hT => sIsUnder_no u xs B T W h hT k l hg) (fun W u B T h hT => iIsUnder_no u xs B T W h hT k l hg)
  · exact long_IsUnder v xs k l w hA hn

end Go.Proofs.Ytngonpiiehmlaaa
