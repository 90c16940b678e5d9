/- RankOfPlanePairing: the law. -/
import Derived.Test.YtenkokkhdcjcaabR7
import Derived.Test.YtenkokkhdcjcaabN4
namespace Go.Proofs.Ytenkokkhdcjcaab
open Go.RowKit
set_option linter.unusedVariables false


theorem plane_bool (xs : List (Int × Int)) (b : Bool) (h : b = decide (allP xs xs.length = [])) : (((allP xs xs.length).length : Int) == 0) = b := by
  subst h
  cases e : allP xs xs.length with
  | nil => simp
  | cons a r => simp; omega

set_option maxHeartbeats 400000 in
theorem iRank_yes (n : Nat) (u : Value) (xs : List (Int × Int)) (B T : Nat) (w : World) (h : PairsIn 62 w B T u xs) (hT : T ≤ w.heap.size) (hg : goodC n xs) (h30 : n ≤ 30) (ho : onceAll n (flatP xs) = true) (hp : allP xs xs.length = []) :
    Calls Try.prog 27 #[.int .i64 n, u] w (fun e w' => e = .returned (.tuple #[.int .i64 (rankP 15 xs : Nat), .bool true]) ∧ Below w.heap.size w w') := by
  obtain ⟨hn2, hP⟩ := plan_all hg ho hp
  have HPL := Lib.hid (plane_bool xs true (by simp [hp]))
  have hs := h.pairs.srcC
  have HO := Lib.hid ho
  have HP := Lib.hid hP
  have HN2 := Lib.hid hn2
  clear ho hp hP hn2
  go_enter Try.func27, Try.ntmps27
  go_wp2_with (first
    | (go_at_call 61; (with_reducible refine (iIsPlane_yes _ u xs B T _ h hT hg).mono ?_); rintro e w1 ⟨rfl, hb1⟩; rw [HPL.out]; have hz1 := hb1.size; have h1 := h.keep (belowSame hb1 hT))
    | (go_at_call 55; (with_reducible refine (joins_any n u xs B T _ h1 hg).mono ?_); rintro e w2 ⟨rfl, hb2⟩; rw [HO.out]; have hB2 := hb1.trans (hb2.mono hz1); have h2 := h.keep (belowSame hB2 hT))
    | (go_at_call 62; (with_reducible refine (rankOf_any 15 0 xs.length xs u _ HP.out (by have := HN2.out; omega) (by have := HN2.out; omega) (by have := HN2.out; omega) h2.pairs.srcC).mono ?_); rintro e w3 ⟨rfl, q, rfl⟩))
  go_ret2
  exact ⟨rfl, bdn hB2 _⟩

set_option maxHeartbeats 400000 in
theorem iRank_no1 (p : Int) (u : Value) (xs : List (Int × Int)) (B T : Nat) (w : World) (h : PairsIn 62 w B T u xs) (hT : T ≤ w.heap.size) (hg : ¬ goodC p xs) : Calls Try.prog 27 #[.int .i64 p, u] w (fun e w' => e = .returned (.tuple #[.int .i64 0, .bool false]) ∧ Below w.heap.size w w') := by
  go_enter Try.func27, Try.ntmps27
  go_wp2_with (first | (go_at_call 61; (with_reducible refine (iIsPlane_no _ u xs B T _ h hT hg).mono ?_); rintro e w1 ⟨rfl, hb1⟩))
  go_ret2
  exact ⟨rfl, hb1⟩

set_option maxHeartbeats 400000 in
theorem iRank_no2 (n : Nat) (u : Value) (xs : List (Int × Int)) (B T : Nat) (w : World) (h : PairsIn 62 w B T u xs) (hT : T ≤ w.heap.size) (hg : goodC n xs) (hp : ¬ allP xs xs.length = []) : Calls Try.prog 27 #[.int .i64 n, u] w (fun e w' => e = .returned (.tuple #[.int .i64 0, .bool false]) ∧ Below w.heap.size w w') := by
  have HPL := Lib.hid (plane_bool xs false (by simp [hp]))
  clear hp
  go_enter Try.func27, Try.ntmps27
  go_wp2_with (first | (go_at_call 61; (with_reducible refine (iIsPlane_yes _ u xs B T _ h hT hg).mono ?_); rintro e w1 ⟨rfl, hb1⟩; rw [HPL.out]))
  go_ret2
  exact ⟨rfl, hb1⟩

set_option maxHeartbeats 400000 in
theorem iRank_no3 (n : Nat) (u : Value) (xs : List (Int × Int)) (B T : Nat) (w : World) (h : PairsIn 62 w B T u xs) (hT : T ≤ w.heap.size) (hg : goodC n xs) (h30 : ¬ n ≤ 30) (hp : allP xs xs.length = []) : Calls Try.prog 27 #[.int .i64 n, u] w (fun e w' => e = .returned (.tuple #[.int .i64 0, .bool false]) ∧ Below w.heap.size w w') := by
  have HPL := Lib.hid (plane_bool xs true (by simp [hp]))
  have h31 : (30 : Int) < (n : Int) := by omega
  clear hp h30
  go_enter Try.func27, Try.ntmps27
  go_wp2_with (first | (go_at_call 61; (with_reducible refine (iIsPlane_yes _ u xs B T _ h hT hg).mono ?_); rintro e w1 ⟨rfl, hb1⟩; rw [HPL.out]))
  go_ret2
  exact ⟨rfl, hb1⟩

set_option maxHeartbeats 400000 in
theorem iRank_no4 (n : Nat) (u : Value) (xs : List (Int × Int)) (B T : Nat) (w : World) (h : PairsIn 62 w B T u xs) (hT : T ≤ w.heap.size) (hg : goodC n xs) (h30 : n ≤ 30) (ho : onceAll n (flatP xs) = false) (hp : allP xs xs.length = []) : Calls Try.prog 27 #[.int .i64 n, u] w (fun e w' => e = .returned (.tuple #[.int .i64 0, .bool false]) ∧ Below w.heap.size w w') := by
  have HPL := Lib.hid (plane_bool xs true (by simp [hp]))
  have HO := Lib.hid ho
  clear ho hp
  go_enter Try.func27, Try.ntmps27
  go_wp2_with (first
    | (go_at_call 61; (with_reducible refine (iIsPlane_yes _ u xs B T _ h hT hg).mono ?_); rintro e w1 ⟨rfl, hb1⟩; rw [HPL.out]; have hz1 := hb1.size; have h1 := h.keep (belowSame hb1 hT))
    | (go_at_call 55; (with_reducible refine (joins_any n u xs B T _ h1 hg).mono ?_); rintro e w2 ⟨rfl, hb2⟩; rw [HO.out]; have hB2 := hb1.trans (hb2.mono hz1)))
  go_ret2
  exact ⟨rfl, hB2⟩


set_option maxHeartbeats 800000 in
theorem sRank_yes (n : Nat) (u : Value) (xs : List (Int × Int)) (B T : Nat) (w : World) (h : PairsIn 62 w B T u xs) (hT : T ≤ w.heap.size) (hg : goodC n xs) (h30 : n ≤ 30) (ho : onceAll n (flatP xs) = true) (hp : allP xs xs.length = []) :
    Calls Try.prog 26 #[.int .i64 n, u] w (fun e w' => e = .returned (.tuple #[.int .i64 (rankP 15 xs : Nat), .bool true]) ∧ Below w.heap.size w w') := by
  obtain ⟨hn2, hP⟩ := plan_all hg ho hp
  have h3p := hg.1
  have hpp : (4 ≤ (n : Int) ∧ (n : Int) ≤ 30) ∧ (n : Int) % 2 = 0 := by omega
  have hnn : (4 ≤ n ∧ n ≤ 30) ∧ n % 2 = 0 := by omega
  have hl := hg.2.1
  have hor := chord_order hg
  have HO := Lib.hid ho
  have HPN := Lib.hid (show (allP xs xs.length).length = 0 by rw [hp]; rfl)
  have huni : ∀ c ∈ xs, ∀ d ∈ xs, c.1 = d.1 → c = d := by
    intro c hc d hd he
    have hcm := good_mem2 hg c hc
    obtain ⟨q, hq⟩ := Int.eq_ofNat_of_zero_le hcm.1
    have h1 := of_decide_eq_true ho q (by omega)
    obtain ⟨i, hi, rfl⟩ := List.getElem_of_mem hc
    obtain ⟨j, hj, rfl⟩ := List.getElem_of_mem hd
    by_cases hij : i = j
    · subst hij; rfl
    · exfalso
      have two : ∀ (i j : Nat) (hi : i < xs.length) (hj : j < xs.length), i < j → xs[i].1 = (q : Int) → xs[j].1 = (q : Int) → False := by
        intro i j hi hj hlt e1 e2
        have e : xs = xs.take (i + 1) ++ xs.drop (i + 1) := (List.take_append_drop _ _).symm
        rw [e, flatP_append, List.count_append] at h1
        have m1 : (q : Int) ∈ flatP (xs.take (i + 1)) := (mem_flatP _ _).2 ⟨xs[i], List.mem_take_iff_getElem.2 ⟨i, by omega, rfl⟩, .inl e1.symm⟩
        have m2 : (q : Int) ∈ flatP (xs.drop (i + 1)) := (mem_flatP _ _).2 ⟨xs[j], List.mem_drop_iff_getElem.2 ⟨j - (i + 1), by omega, by simp [show i + 1 + (j - (i + 1)) = j by omega]⟩, .inl e2.symm⟩
        have c1 := List.count_pos_iff.2 m1
        have c2 := List.count_pos_iff.2 m2
        omega
      rcases Nat.lt_or_ge i j with hlt | hge
      · exact two i j hi hj hlt hq (he ▸ hq)
      · exact two j i hj hi (by omega) (he ▸ hq) hq
  have C := fun (wv : Value) (B2 T2 : Nat) (W : World) (h : PairsIn 62 W B T u xs) (hT : T ≤ W.heap.size) (hI : IntsIn 3 W B2 T2 wv (waysL n (n / 2 + 1) 0)) (hT2 : T2 ≤ W.heap.size) =>
    cdRank_any 15 0 xs.length n B T B2 T2 xs xs u wv W h hT hI hT2 (by omega) (by omega) hP (by omega) (by omega) (by omega) hl (fun _ hc => hc) huni
  rw [← hn2] at C
  have HC : Hid (∀ (wv : Value) (B2 T2 : Nat) (W : World), PairsIn 62 W B T u xs → T ≤ W.heap.size → IntsIn 3 W B2 T2 wv (waysL n (n / 2 + 1) 0) → T2 ≤ W.heap.size → Calls Try.prog 60 #[u, .int .i64 0, .int .i64 (n : Int), wv] W fun e w' => e = .returned (.int .i64 (rankP 15 xs : Nat)) ∧ Below W.heap.size W w') := Lib.hid C
  clear ho hp huni hP C hn2 h3p
  go_enter Try.func26, Try.ntmps26
  go_wp2_with (first
    | (go_at_call 44; (with_reducible refine (cdPlanePoints_yes _ _ hpp).mono ?_); rintro e w1 ⟨rfl, rfl⟩)
    | (go_at_call 51; (with_reducible refine (cdGood_yes _ u xs B T _ h hg).mono ?_); rintro e w1 ⟨rfl, hb1⟩; have h1 := h.keep (belowSame hb1 hT); have hz1 := hb1.size)
    | (go_at_call 52; (with_reducible refine (cdPairing_any n u xs B T _ h1 hg).mono ?_); rintro e w2 ⟨rfl, hb2⟩; rw [HO.out]; have hB2 := hb1.trans (hb2.mono hz1); have h2 := h.keep (belowSame hB2 hT); have hz2 := hB2.size)
    | ((go_at_call 59; (with_reducible refine (cdPairs_any u xs B T _ h2 hor hl).mono ?_); rintro e w3 ⟨v, rfl, hr, hb3⟩; have hB3 := hB2.trans (hb3.mono hz2); have h3 := h.keep (belowSame hB3 hT); obtain ⟨vs, hv⟩ := hr; obtain ⟨a0, cap0, g0, rfl, _⟩ := hv.view); rw [HPN.out])
    | (go_at_call 45; (with_reducible refine (cdPlane_any n _ hnn).mono ?_); rintro e w4 ⟨g, cap, rfl, hi, hb4⟩; have HI := Lib.hid hi; have HB4 := Lib.hid (hB3.trans (hb4.mono hB3.size)); clear hi hb4)
    | (go_at_call 60; (with_reducible refine (HC.out _ _ _ _ (h.keep (belowSame HB4.out hT)) (Nat.le_trans hT HB4.out.size) HI.out (Nat.le_refl _)).mono ?_); rintro e w5 ⟨rfl, hb5⟩; have HB5 := Lib.hid (HB4.out.trans (hb5.mono HB4.out.size)); clear hb5))
  go_ret2
  exact ⟨rfl, HB5.out⟩

set_option maxHeartbeats 400000 in
theorem sRank_no1 (p : Int) (u : Value) (xs : List (Int × Int)) (B T : Nat) (w : World) (h : PairsIn 62 w B T u xs) (hT : T ≤ w.heap.size) (hp : ¬ ((4 ≤ p ∧ p ≤ 30) ∧ p % 2 = 0)) : Calls Try.prog 26 #[.int .i64 p, u] w (fun e w' => e = .returned (.tuple #[.int .i64 0, .bool false]) ∧ Below w.heap.size w w') := by
  obtain ⟨a1, c1, g1, rfl, _⟩ := h.pairs.view
  clear h
  go_enter Try.func26, Try.ntmps26
  go_wp2_with (first | (go_at_call 44; (with_reducible refine (cdPlanePoints_no _ _ hp).mono ?_); rintro e w1 ⟨rfl, rfl⟩))
  go_ret2
  exact ⟨rfl, by go_grown⟩

set_option maxHeartbeats 400000 in
theorem sRank_no2 (p : Int) (u : Value) (xs : List (Int × Int)) (B T : Nat) (w : World) (h : PairsIn 62 w B T u xs) (hT : T ≤ w.heap.size) (hpp : (4 ≤ p ∧ p ≤ 30) ∧ p % 2 = 0) (hg : ¬ goodC p xs) : Calls Try.prog 26 #[.int .i64 p, u] w (fun e w' => e = .returned (.tuple #[.int .i64 0, .bool false]) ∧ Below w.heap.size w w') := by
  go_enter Try.func26, Try.ntmps26
  go_wp2_with (first | (go_at_call 44; (with_reducible refine (cdPlanePoints_yes _ _ hpp).mono ?_); rintro e w1 ⟨rfl, rfl⟩) | (go_at_call 51; (with_reducible refine (cdGood_no p u xs B T _ h hg).mono ?_); rintro e w1 ⟨rfl, hb1⟩))
  go_ret2
  exact ⟨rfl, hb1⟩

set_option maxHeartbeats 400000 in
theorem sRank_no3 (n : Nat) (u : Value) (xs : List (Int × Int)) (B T : Nat) (w : World) (h : PairsIn 62 w B T u xs) (hT : T ≤ w.heap.size) (hpp : (4 ≤ (n : Int) ∧ (n : Int) ≤ 30) ∧ (n : Int) % 2 = 0) (hg : goodC n xs) (ho : onceAll n (flatP xs) = false) : Calls Try.prog 26 #[.int .i64 n, u] w (fun e w' => e = .returned (.tuple #[.int .i64 0, .bool false]) ∧ Below w.heap.size w w') := by
  have HO := Lib.hid ho
  clear ho
  go_enter Try.func26, Try.ntmps26
  go_wp2_with (first | (go_at_call 44; (with_reducible refine (cdPlanePoints_yes _ _ hpp).mono ?_); rintro e w1 ⟨rfl, rfl⟩) | (go_at_call 51; (with_reducible refine (cdGood_yes _ u xs B T _ h hg).mono ?_); rintro e w1 ⟨rfl, hb1⟩; have h1 := h.keep (belowSame hb1 hT); have hz1 := hb1.size) | (go_at_call 52; (with_reducible refine (cdPairing_any n u xs B T _ h1 hg).mono ?_); rintro e w2 ⟨rfl, hb2⟩; rw [HO.out]; have hB2 := hb1.trans (hb2.mono hz1); have h2 := h.keep (belowSame hB2 hT); have hz2 := hB2.size))
  go_ret2
  exact ⟨rfl, hB2⟩

set_option maxHeartbeats 400000 in
theorem sRank_no4 (n : Nat) (u : Value) (xs : List (Int × Int)) (B T : Nat) (w : World) (h : PairsIn 62 w B T u xs) (hT : T ≤ w.heap.size) (hpp : (4 ≤ (n : Int) ∧ (n : Int) ≤ 30) ∧ (n : Int) % 2 = 0) (hg : goodC n xs) (ho : onceAll n (flatP xs) = true) (hp : ¬ allP xs xs.length = []) : Calls Try.prog 26 #[.int .i64 n, u] w (fun e w' => e = .returned (.tuple #[.int .i64 0, .bool false]) ∧ Below w.heap.size w w') := by
  have hl := hg.2.1
  have hor := chord_order hg
  have HO := Lib.hid ho
  have h0 : 0 < (allP xs xs.length).length := List.length_pos_iff.2 hp
  have h1' : (0 : Int) < ((allP xs xs.length).length : Int) := by omega
  clear ho hp
  go_enter Try.func26, Try.ntmps26
  go_wp2_with (first | (go_at_call 44; (with_reducible refine (cdPlanePoints_yes _ _ hpp).mono ?_); rintro e w1 ⟨rfl, rfl⟩) | (go_at_call 51; (with_reducible refine (cdGood_yes _ u xs B T _ h hg).mono ?_); rintro e w1 ⟨rfl, hb1⟩; have h1 := h.keep (belowSame hb1 hT); have hz1 := hb1.size) | (go_at_call 52; (with_reducible refine (cdPairing_any n u xs B T _ h1 hg).mono ?_); rintro e w2 ⟨rfl, hb2⟩; rw [HO.out]; have hB2 := hb1.trans (hb2.mono hz1); have h2 := h.keep (belowSame hB2 hT); have hz2 := hB2.size) | (go_at_call 59; (with_reducible refine (cdPairs_any u xs B T _ h2 hor hl).mono ?_); rintro e w3 ⟨v, rfl, hr, hb3⟩; have hB3 := hB2.trans (hb3.mono hz2); have h3 := h.keep (belowSame hB3 hT); obtain ⟨vs, hv⟩ := hr; obtain ⟨a0, cap0, g0, rfl, _⟩ := hv.view))
  go_ret2
  exact ⟨rfl, hB3⟩

set_option maxHeartbeats 1000000 in
theorem core_RankOfPlanePairing (p : Int) (v : Value) (xs : List (Int × Int)) (x : Int) (b : Bool) (w : World) (hA : ArgP w v xs) (hn : xs.length ≤ 1048576)
    (hs : ∀ (W : World) (u : Value) (B T : Nat), PairsIn 62 W B T u xs → T ≤ W.heap.size → Calls Try.prog 26 #[.int .i64 p, u] W (fun e w' => e = .returned (.tuple #[.int .i64 x, .bool b]) ∧ Below W.heap.size W w'))
    (hi : ∀ (W : World) (u : Value) (B T : Nat), PairsIn 62 W B T u xs → T ≤ W.heap.size → Calls Try.prog 27 #[.int .i64 p, u] W (fun e w' => e = .returned (.tuple #[.int .i64 x, .bool b]) ∧ Below W.heap.size W w')) :
    Calls Try.prog 7 #[.int .i64 p, v] w fun e w' => e = .returned (.bool true) ∧ Below w.heap.size w w' := by
  have hA1 := hA
  obtain ⟨a0, cap, a, rfl, _⟩ := hA1
  have HS := Lib.hid hs
  have HI := Lib.hid hi
  have HA := Lib.hid hA
  clear hs hi hA
  go_enter Try.func7, Try.ntmps7
  go_wp2_with fail
  refine (szChordS_yes _ _ _ _ hn).mono ?_
  rintro e w0 ⟨rfl, rfl⟩
  go_wp2_with fail
  refine (toChordS_any _ _ _ (HA.out.later (by go_grown)) hn).mono ?_
  rintro e w1 ⟨va, rfl, ka_1, hb1⟩
  have n1 : w.heap.size ≤ w1.heap.size := by have := hb1.size; (try simp at this); omega
  have B1 : Below w.heap.size w w1 := Below.trans (by go_grown) (hb1.mono (by first | (simp; done) | (simp; omega)))
  go_wp2_with fail
  refine (HS.out _ _ _ _ ka_1 (by omega)).mono ?_
  rintro e w2 ⟨rfl, hb2⟩
  have n2 := hb2.size
  have B2 := B1.trans (hb2.mono (by omega))
  have ka_2 := ka_1.keep (belowSame hb2 (by omega))
  go_wp2_with fail
  refine (toChordS_any _ _ _ (HA.out.later B2) hn).mono ?_
  rintro e w3 ⟨vc, rfl, kc_3, hb3⟩
  have n3 := hb3.size
  have B3 := B2.trans (hb3.mono (by omega))
  have ka_3 := ka_2.keep (belowSame hb3 (by omega))
  go_wp2_with fail
  refine (HI.out _ _ _ _ kc_3 (by omega)).mono ?_
  rintro e w4 ⟨rfl, hb4⟩
  have n4 := hb4.size
  have B4 := B3.trans (hb4.mono (by omega))
  have ka_4 := ka_3.keep (belowSame hb4 (by omega))
  have kc_4 := kc_3.keep (belowSame hb4 (by omega))
  go_wp2_with fail
  refine (toChordS_any _ _ _ (HA.out.later B4) hn).mono ?_
  rintro e w5 ⟨vd, rfl, kd_5, hb5⟩
  have n5 := hb5.size
  have B5 := B4.trans (hb5.mono (by omega))
  have ka_5 := ka_4.keep (belowSame hb5 (by omega))
  have kc_5 := kc_4.keep (belowSame hb5 (by omega))
  go_wp2_with fail
  refine (eqChordS_in _ _ _ _ _ _ _ _ _ kc_5 kd_5).mono ?_
  rintro e w6 ⟨rfl, hb6⟩
  have n6 := hb6.size
  have B6 := B5.trans (hb6.mono (by omega))
  have ka_6 := ka_5.keep (belowSame hb6 (by omega))
  have kc_6 := kc_5.keep (belowSame hb6 (by omega))
  have kd_6 := kd_5.keep (belowSame hb6 (by omega))
  go_wp2_with fail
  go_ret
  exact ⟨rfl, B6⟩

set_option maxHeartbeats 400000 in
theorem long_RankOfPlanePairing (p : Int) (v : Value) (xs : List (Int × Int)) (w : World) (hA : ArgP w v xs) (hn : ¬ xs.length ≤ 1048576) :
    Calls Try.prog 7 #[.int .i64 p, v] w fun e w' => e = .returned (.bool true) ∧ Below w.heap.size w w' := by
  obtain ⟨a0, cap, a, rfl, _, hm, _⟩ := hA
  go_enter Try.func7, Try.ntmps7
  go_wp2_with fail
  refine (szChordS_no _ _ _ _ (by omega) hm).mono ?_
  rintro e w0 ⟨rfl, rfl⟩
  go_wp2_with fail
  go_ret
  exact ⟨rfl, by go_grown⟩

theorem walk_RankOfPlanePairing (p : Int) (v : Value) (xs : List (Int × Int)) (w : World) (_ : (Lit.int .i64 p).wf = true) (hA : ArgP w v xs) :
    Calls Try.prog 7 #[.int .i64 p, v] w fun e w' => e = .returned (.bool true) ∧ Below w.heap.size w w' := by
  by_cases hn : xs.length ≤ 1048576
  · by_cases hg : goodC p xs
    · obtain ⟨n, rfl⟩ := Int.eq_ofNat_of_zero_le (show 0 ≤ p by have := hg.1; omega)
      by_cases h30 : n ≤ 30
      · cases ho : onceAll n (flatP xs) with
        | false =>
          have hs : ∀ (W : World) (u : Value) (B T : Nat), PairsIn 62 W B T u xs → T ≤ W.heap.size → Calls Try.prog 26 #[.int .i64 (n : Int), u] W (fun e w' => e = .returned (.tuple #[.int .i64 0, .bool false]) ∧ Below W.heap.size W w') := by
            intro W u B T h hT
            by_cases hpp : (4 ≤ (n : Int) ∧ (n : Int) ≤ 30) ∧ (n : Int) % 2 = 0
            · exact sRank_no3 n u xs B T W h hT hpp hg ho
            · exact sRank_no1 n u xs B T W h hT hpp
          by_cases hp : allP xs xs.length = []
          · exact core_RankOfPlanePairing _ v xs _ _ w hA hn hs (fun W u B T h hT => iRank_no4 n u xs B T W h hT hg h30 ho hp)
          · exact core_RankOfPlanePairing _ v xs _ _ w hA hn hs (fun W u B T h hT => iRank_no2 n u xs B T W h hT hg hp)
        | true =>
          by_cases hp : allP xs xs.length = []
          · exact core_RankOfPlanePairing _ v xs _ _ w hA hn (fun W u B T h hT => sRank_yes n u xs B T W h hT hg h30 ho hp) (fun W u B T h hT => iRank_yes n u xs B T W h hT hg h30 ho hp)
          · refine core_RankOfPlanePairing _ v xs _ _ w hA hn (fun W u B T h hT => ?_) (fun W u B T h hT => iRank_no2 n u xs B T W h hT hg hp)
            by_cases hpp : (4 ≤ (n : Int) ∧ (n : Int) ≤ 30) ∧ (n : Int) % 2 = 0
            · exact sRank_no4 n u xs B T W h hT hpp hg ho hp
            · exact sRank_no1 n u xs B T W h hT hpp
      · by_cases hp : allP xs xs.length = []
        · exact core_RankOfPlanePairing _ v xs _ _ w hA hn (fun W u B T h hT => sRank_no1 n u xs B T W h hT (by omega)) (fun W u B T h hT => iRank_no3 n u xs B T W h hT hg h30 hp)
        · exact core_RankOfPlanePairing _ v xs _ _ w hA hn (fun W u B T h hT => sRank_no1 n u xs B T W h hT (by omega)) (fun W u B T h hT => iRank_no2 n u xs B T W h hT hg hp)
    · refine core_RankOfPlanePairing p v xs _ _ w hA hn (fun W u B T h hT => ?_) (fun W u B T h hT => iRank_no1 p u xs B T W h hT hg)
      by_cases hpp : (4 ≤ p ∧ p ≤ 30) ∧ p % 2 = 0
      · exact sRank_no2 p u xs B T W h hT hpp hg
      · exact sRank_no1 p u xs B T W h hT hpp
  · exact long_RankOfPlanePairing p v xs w hA hn

end Go.Proofs.Ytenkokkhdcjcaab
