/- SureStar: both sides, the law. -/
import Derived.Test.YtpliaenpencocaaDoorXH
namespace Go.Proofs.YtpliaenpencocaaDoor
open Go.RowKit
set_option linter.unusedVariables false

theorem sureN_of {f : Int × Int → Int} {n : Int} {xs : List (Int × Int)} {t : Bool} (h : (!xs.all (fun z => f z == n)) = t) : sureN f n xs = if t then 0 else n := by
  unfold sureN
  subst h
  cases xs.all (fun z => f z == n) <;> rfl

set_option maxHeartbeats 400000 in
theorem sSure_none (u : Value) (xs : List Tri) (w : World) (hx : SrcT w u xs) (hP : puzzleP xs) (hS : solZ xs = []) (hW : ClueW w) : Calls Tryd.prog 37 #[.agg #[u]] w (fun e w' => e = .returned (.tuple #[.int .i64 0, .int .i64 0, .bool false]) ∧ Below w.heap.size w w') := by
  have HX := Lib.hid hx
  have HW := Lib.hid hW
  have HP := Lib.hid (show decide (puzzleP xs) = true from decide_eq_true hP)
  obtain ⟨a0, cap, g, off, rfl, _⟩ := hx.form
  clear hx hW
  have HSO := Lib.hid hS
  clear hS
  go_enter Tryd.func37, Tryd.ntmps37
  go_wp2_with (first
    | (go_at_call 56; (refine (pzGood_any _ xs true _ (HX.out.later (by go_grown)) HP.out).mono ?_); rintro e w1 ⟨rfl, hb1⟩; (have c0 : w1.cell? ⟨w.heap.size, 0, none⟩ = some (.slice a0 xs.length cap) := cellB hb1 (by go_simp)); (have hB1 : Below w.heap.size w w1 := Below.trans (by go_grown) (hb1.mono (by first | omega | (simp; done) | (simp; omega)))); have hz1 := hB1.size)
    | (go_at_call 63; (refine (pzAll_any _ xs _ (HX.out.later hB1) hP).mono ?_); rintro e w2 ⟨v, rfl, hI, hb2⟩; (have hB9 := hB1.trans (hb2.mono hz1)); (rw [HSO.out] at hI); (obtain ⟨a1, c1, g1, rfl, ha1, _, hx1, hy1⟩ := hI.pairs.view); clear hx1 hy1 ha1))
  go_ret3
  exact ⟨rfl, hB9⟩

set_option maxHeartbeats 400000 in
theorem iSure_none (u : Value) (xs : List Tri) (w : World) (hx : SrcT w u xs) (hP : puzzleP xs) (hS : solZ xs = []) (hW : ClueW w) : Calls Tryd.prog 38 #[.agg #[u]] w (fun e w' => e = .returned (.tuple #[.int .i64 0, .int .i64 0, .bool false]) ∧ Below w.heap.size w w') := by
  have HX := Lib.hid hx
  have HW := Lib.hid hW
  have HP := Lib.hid (show decide (puzzleP xs) = true from decide_eq_true hP)
  obtain ⟨a0, cap, g, off, rfl, _⟩ := hx.form
  clear hx hW
  have HSO := Lib.hid hS
  clear hS
  go_enter Tryd.func38, Tryd.ntmps38
  go_wp2_with (first
    | (go_at_call 27; (refine (iSolutions_yes _ xs _ (HX.out.later (by go_grown)) hP (HW.out.later (by go_grown))).mono ?_); rintro e w1 ⟨v, rfl, hI, hb1⟩; (have hB9 : Below w.heap.size w w1 := Below.trans (by go_grown) (hb1.mono (by first | omega | (simp; done) | (simp; omega)))); have hz9 := hB9.size; (rw [HSO.out] at hI); (obtain ⟨a1, c1, g1, rfl, ha1, _, hx1, hy1⟩ := hI.pairs.view); clear hx1 hy1 ha1))
  go_ret3
  exact ⟨rfl, hB9⟩

set_option maxHeartbeats 400000 in
theorem sSure_bad (u : Value) (xs : List Tri) (w : World) (hx : SrcT w u xs) (hP : ¬ puzzleP xs) (hW : ClueW w) : Calls Tryd.prog 37 #[.agg #[u]] w (fun e w' => e = .returned (.tuple #[.int .i64 0, .int .i64 0, .bool false]) ∧ Below w.heap.size w w') := by
  have HX := Lib.hid hx
  have HW := Lib.hid hW
  have HP := Lib.hid (show decide (puzzleP xs) = false from decide_eq_false hP)
  obtain ⟨a0, cap, g, off, rfl, _⟩ := hx.form
  clear hx hW
  go_enter Tryd.func37, Tryd.ntmps37
  go_wp2_with (first
    | (go_at_call 56; (refine (pzGood_any _ xs false _ (HX.out.later (by go_grown)) HP.out).mono ?_); rintro e w1 ⟨rfl, hb1⟩; (have c0 : w1.cell? ⟨w.heap.size, 0, none⟩ = some (.slice a0 xs.length cap) := cellB hb1 (by go_simp)); (have hB1 : Below w.heap.size w w1 := Below.trans (by go_grown) (hb1.mono (by first | omega | (simp; done) | (simp; omega)))); have hz1 := hB1.size))
  go_ret3
  exact ⟨rfl, hB1⟩

set_option maxHeartbeats 400000 in
theorem iSure_bad (u : Value) (xs : List Tri) (w : World) (hx : SrcT w u xs) (hP : ¬ puzzleP xs) (hW : ClueW w) : Calls Tryd.prog 38 #[.agg #[u]] w (fun e w' => e = .returned (.tuple #[.int .i64 0, .int .i64 0, .bool false]) ∧ Below w.heap.size w w') := by
  have HX := Lib.hid hx
  have HW := Lib.hid hW
  have HP := Lib.hid (show decide (puzzleP xs) = false from decide_eq_false hP)
  obtain ⟨a0, cap, g, off, rfl, _⟩ := hx.form
  clear hx hW
  go_enter Tryd.func38, Tryd.ntmps38
  go_wp2_with (first
    | (go_at_call 27; (refine (iSolutions_no _ xs _ (HX.out.later (by go_grown)) hP (HW.out.later (by go_grown))).mono ?_); rintro e w1 ⟨v, rfl, hI, hb1⟩; (have hB9 : Below w.heap.size w w1 := Below.trans (by go_grown) (hb1.mono (by first | omega | (simp; done) | (simp; omega)))); have hz9 := hB9.size; (obtain ⟨a1, c1, g1, rfl, ha1, _, hx1, hy1⟩ := hI.pairs.view); clear hx1 hy1 ha1))
  go_ret3
  exact ⟨rfl, hB9⟩

set_option maxHeartbeats 400000 in
theorem iSure_some (u : Value) (xs : List Tri) (w : World) (hx : SrcT w u xs) (S : List (Int × Int)) (a b : Int) (t : List (Int × Int)) (hP : puzzleP xs) (hS : solZ xs = S) (hL : S = (a, b) :: t) (hW : ClueW w) : Calls Tryd.prog 38 #[.agg #[u]] w (fun e w' => e = .returned (.tuple #[.int .i64 (sureN Prod.fst a S), .int .i64 (sureN Prod.snd b S), .bool true]) ∧ Below w.heap.size w w') := by
  have hl0 : 0 < S.length := by rw [hL]; simp
  have hl1 : ¬ (S.length : Int) = 0 := by omega
  have hl2 : (0 : Int) < (S.length : Int) := by omega
  obtain ⟨t1, h1⟩ : ∃ t1, (!S.all (fun z => z.fst == a)) = t1 := ⟨_, rfl⟩
  obtain ⟨t2, h2⟩ : ∃ t2, (!S.all (fun z => z.snd == b)) = t2 := ⟨_, rfl⟩
  rw [sureN_of (f := Prod.fst) h1, sureN_of (f := Prod.snd) h2]
  have HX := Lib.hid hx
  have HW := Lib.hid hW
  have HP := Lib.hid (show decide (puzzleP xs) = true from decide_eq_true hP)
  obtain ⟨a0, cap, g, off, rfl, _⟩ := hx.form
  clear hx hW
  have HSO := Lib.hid hS
  clear hS
  have HL := Lib.hid hL
  have H1 := Lib.hid h1
  have H2 := Lib.hid h2
  clear hL h1 h2
  go_enter Tryd.func38, Tryd.ntmps38
  go_wp2_with (first
    | (go_at_call 27; (refine (iSolutions_yes _ xs _ (HX.out.later (by go_grown)) hP (HW.out.later (by go_grown))).mono ?_); rintro e w1 ⟨v, rfl, hI, hb1⟩; (have hB9 : Below w.heap.size w w1 := Below.trans (by go_grown) (hb1.mono (by first | omega | (simp; done) | (simp; omega)))); have hz9 := hB9.size; (rw [HSO.out] at hI); (have HI := Lib.hid hI); (obtain ⟨a1, c1, g1, rfl, ha1, _, hx1, hy1⟩ := hI.pairs.view); clear hx1 hy1 ha1 hI)
    | (go_at_call 69; (with_reducible refine (sure1_any _ S a b t _ _ t1 _ HI.out (Nat.le_refl _) HL.out H1.out).mono ?_); rintro e w2 ⟨rfl, hb2⟩; (have hB8 := hB9.trans (hb2.mono hz9)); have hz8 := hb2.size)
    | (go_at_call 69; (with_reducible refine (sure2_any _ S a b t _ _ t2 _ (HI.out.keep (belowSame hb2 (Nat.le_refl _))) hz8 HL.out H2.out).mono ?_); rintro e w3 ⟨rfl, hb3⟩; (have hB7 := hB8.trans (hb3.mono (by omega)))))
  all_goals (go_ret3; exact ⟨rfl, hB7⟩)

set_option maxHeartbeats 2000000 in
theorem sSure_some (u : Value) (xs : List Tri) (w : World) (hx : SrcT w u xs) (S : List (Int × Int)) (a b : Int) (t : List (Int × Int)) (hP : puzzleP xs) (hS : solZ xs = S) (hL : S = (a, b) :: t) (hW : ClueW w) : Calls Tryd.prog 37 #[.agg #[u]] w (fun e w' => e = .returned (.tuple #[.int .i64 (sureN Prod.fst a S), .int .i64 (sureN Prod.snd b S), .bool true]) ∧ Below w.heap.size w w') := by
  have hl0 : 0 < S.length := by rw [hL]; simp
  have hl1 : ¬ (S.length : Int) = 0 := by omega
  have hl2 : (0 : Int) < (S.length : Int) := by omega
  have HX := Lib.hid hx
  have HW := Lib.hid hW
  have HP := Lib.hid (show decide (puzzleP xs) = true from decide_eq_true hP)
  obtain ⟨a0, cap, g, off, rfl, _⟩ := hx.form
  clear hx hW
  have HSO := Lib.hid hS
  clear hS
  have HL := Lib.hid hL
  clear hL
  go_enter Tryd.func37, Tryd.ntmps37
  go_wp2_with (first
    | (go_at_call 56; (refine (pzGood_any _ xs true _ (HX.out.later (by go_grown)) HP.out).mono ?_); rintro e w1 ⟨rfl, hb1⟩; (have c0 : w1.cell? ⟨w.heap.size, 0, none⟩ = some (.slice a0 xs.length cap) := cellB hb1 (by go_simp)); (have hB1 : Below w.heap.size w w1 := Below.trans (by go_grown) (hb1.mono (by first | omega | (simp; done) | (simp; omega)))); have hz1 := hB1.size)
    | (go_at_call 63; (refine (pzAll_any _ xs _ (HX.out.later hB1) hP).mono ?_); rintro e w2 ⟨v, rfl, hI, hb2⟩; (have hB9 := hB1.trans (hb2.mono hz1)); (have hz9 := hB9.size); (rw [HSO.out] at hI); (obtain ⟨a1, c1, g1, rfl, ha1, hm1, hx1, hy1⟩ := hI.pairs.view); (obtain rfl := ha1 hl0); (have p0 := hx1 0 hl0); (have p1 := hy1 0 hl0); (rw [HL.out] at p0 p1); (simp only [List.getD_cons_zero, Nat.zero_mul, Nat.zero_add] at p0 p1); (have X := Lib.hid hx1); (have Y := Lib.hid hy1); unfold maxLen at hm1; clear hx1 hy1 ha1 hI))
  go_quiet (fail)
  go_wp2
  go_loopw [6, 7, 29] (fun p q i wr => ∃ k : Nat, k ≤ S.length ∧ i = .int .i64 (k : Int) ∧ p = .int .i64 (sureN Prod.fst a (S.take k)) ∧ q = .int .i64 (sureN Prod.snd b (S.take k)) ∧ Hid (Below w2.heap.size w2 wr)) (fun _ _ i _ => S.length - (intOf i).toNat)
  case atStart => exact ⟨0, by omega, rfl, rfl, rfl, Lib.hid (by first | exact Below.refl _ _ | exact ⟨rfl, rfl, rfl, Nat.le_refl _, fun _ _ => rfl⟩)⟩
  case round =>
    obtain ⟨k, hk, rfl, hp, hq, HB⟩ := hrel
    by_cases hlt : k < S.length
    · have cx := cellB HB.out (X.out k hlt)
      have cy := cellB HB.out (Y.out k hlt)
      have i1 : 0 ≤ (k : Int) := by omega
      have i2 : (k : Int) < (S.length : Int) := by omega
      have yx := @sureN_yes Prod.fst a S k hlt
      have nx := @sureN_no Prod.fst a S k hlt
      have yy := @sureN_yes Prod.snd b S k hlt
      have ny := @sureN_no Prod.snd b S k hlt
      obtain ⟨x, y, hxy⟩ : ∃ x y, S.getD k (0, 0) = (x, y) := ⟨_, _, rfl⟩
      obtain ⟨P, hP9⟩ : ∃ P, sureN Prod.fst a (S.take k) = P := ⟨_, rfl⟩
      obtain ⟨Q, hQ9⟩ : ∃ Q, sureN Prod.snd b (S.take k) = Q := ⟨_, rfl⟩
      rw [hxy] at cx cy yx nx yy ny
      rw [hP9] at hp yx nx
      rw [hQ9] at hq yy ny
      simp only at cx cy yx nx yy ny
      subst hp hq
      have z2 := HB.out.size
      clear hxy hP9 hQ9
      by_cases h1 : x = P
      · have HY1 := Lib.hid (yx h1)
        by_cases h2 : y = Q
        · have HY2 := Lib.hid (yy h2)
          clear yx nx yy ny
          go_wp2
          go_roundw
          case rel => exact ⟨k + 1, by omega, by go_num, by rw [HY1.out], by rw [HY2.out], Lib.hid (HB.out.trans (Below.mono (show Below wr.heap.size wr _ by go_grown) z2))⟩
          case measure => simp [intOf]; omega
        · have HY2 := Lib.hid (ny h2)
          clear yx nx yy ny
          go_wp2
          go_roundw
          case rel => exact ⟨k + 1, by omega, by go_num, by rw [HY1.out], by rw [HY2.out], Lib.hid (HB.out.trans (Below.mono (show Below wr.heap.size wr _ by go_grown) z2))⟩
          case measure => simp [intOf]; omega
      · have HY1 := Lib.hid (nx h1)
        by_cases h2 : y = Q
        · have HY2 := Lib.hid (yy h2)
          clear yx nx yy ny
          go_wp2
          go_roundw
          case rel => exact ⟨k + 1, by omega, by go_num, by rw [HY1.out], by rw [HY2.out], Lib.hid (HB.out.trans (Below.mono (show Below wr.heap.size wr _ by go_grown) z2))⟩
          case measure => simp [intOf]; omega
        · have HY2 := Lib.hid (ny h2)
          clear yx nx yy ny
          go_wp2
          go_roundw
          case rel => exact ⟨k + 1, by omega, by go_num, by rw [HY1.out], by rw [HY2.out], Lib.hid (HB.out.trans (Below.mono (show Below wr.heap.size wr _ by go_grown) z2))⟩
          case measure => simp [intOf]; omega
    · obtain rfl : k = S.length := by omega
      rw [List.take_length] at hp hq
      subst hp hq
      go_wp2
      go_ret3
      exact ⟨rfl, hB9.trans (HB.out.mono hz9)⟩

set_option maxHeartbeats 2000000 in
theorem core_SureStar (v : Value) (xs : List Tri) (x : Int) (y : Int) (b : Bool) (w : World) (hA : ArgT w v xs) (hW : ClueW w) (hn : xs.length ≤ 1048576)
    (hs : ∀ (W : World) (u : Value) (B T : Nat), ClueW W → TripsIn 25 W B T u xs → T ≤ W.heap.size → Calls Tryd.prog 37 #[.agg #[u]] W (fun e w' => e = .returned (.tuple #[.int .i64 x, .int .i64 y, .bool b]) ∧ Below W.heap.size W w'))
    (hi : ∀ (W : World) (u : Value) (B T : Nat), ClueW W → TripsIn 25 W B T u xs → T ≤ W.heap.size → Calls Tryd.prog 38 #[.agg #[u]] W (fun e w' => e = .returned (.tuple #[.int .i64 x, .int .i64 y, .bool b]) ∧ Below W.heap.size W w')) :
    Calls Tryd.prog 9 #[.agg #[v]] w fun e w' => e = .returned (.bool true) ∧ Below w.heap.size w w' := by
  have hA1 := hA
  obtain ⟨a0, cap, a, rfl, _⟩ := hA1
  have HS := Lib.hid hs
  have HI := Lib.hid hi
  have HA := Lib.hid hA
  have HW := Lib.hid hW
  clear hs hi hA hW
  go_enter Tryd.func9, Tryd.ntmps9
  go_wp2_with fail
  refine (szPuzzle_yes _ _ _ _ hn).mono ?_
  rintro e w1 ⟨rfl, hx1⟩
  have hb1 : Below w.heap.size w w1 := Below.trans (by go_grown) (hx1.mono (by first | omega | (simp; done) | (simp; omega)))
  have n1 : w.heap.size + 1 ≤ w1.heap.size := by have := hx1.size; (try simp at this); omega
  have B1 : Below w.heap.size w w1 := hb1
  have zp1 : w1.cell? ⟨w.heap.size, 0, none⟩ = some (.slice a0 xs.length cap) := cellB hx1 (by go_simp)
  go_wp2_with fail
  refine (toPuzzle_any _ _ _ (HA.out.later B1) hn).mono ?_
  rintro e w2 ⟨va, rfl, ka_2, hx2⟩
  have hb2 : Below w1.heap.size w1 w2 := Below.trans (by go_grown) (hx2.mono (by first | omega | (simp; done) | (simp; omega)))
  have n2 : w1.heap.size + 0 ≤ w2.heap.size := by have := hx2.size; (try simp at this); omega
  have B2 : Below w.heap.size w w2 := B1.trans (hb2.mono (by omega))
  have zp2 := cellB hb2 zp1
  clear zp1
  obtain ⟨aa, ma, ca, hva⟩ := own_formT ka_2.1
  subst hva
  go_wp2_with fail
  refine (HS.out _ _ _ _ (HW.out.later B2) ka_2 (by first | omega | (simp; done) | (simp; omega))).mono ?_
  rintro e w3 ⟨rfl, hx3⟩
  have hb3 : Below w2.heap.size w2 w3 := Below.trans (by go_grown) (hx3.mono (by first | omega | (simp; done) | (simp; omega)))
  have n3 : w2.heap.size + 0 ≤ w3.heap.size := by have := hx3.size; (try simp at this); omega
  have B3 : Below w.heap.size w w3 := B2.trans (hb3.mono (by omega))
  have zp3 := cellB hb3 zp2
  clear zp2
  have ka_3 := ka_2.keep (belowSame hb3 (by omega))
  go_wp2_with fail
  refine (toPuzzle_any _ _ _ (HA.out.later B3) hn).mono ?_
  rintro e w4 ⟨vc, rfl, kc_4, hx4⟩
  have hb4 : Below w3.heap.size w3 w4 := Below.trans (by go_grown) (hx4.mono (by first | omega | (simp; done) | (simp; omega)))
  have n4 : w3.heap.size + 0 ≤ w4.heap.size := by have := hx4.size; (try simp at this); omega
  have B4 : Below w.heap.size w w4 := B3.trans (hb4.mono (by omega))
  have zp4 := cellB hb4 zp3
  clear zp3
  have ka_4 := ka_3.keep (belowSame hb4 (by omega))
  obtain ⟨ac, mc, cc, hvc⟩ := own_formT kc_4.1
  subst hvc
  go_wp2_with fail
  refine (HI.out _ _ _ _ (HW.out.later (Below.trans B4 (by go_grown))) (kc_4.keep (belowSame (by go_grown) (by first | omega | (simp; done) | (simp; omega)))) (by first | omega | (simp; done) | (simp; omega))).mono ?_
  rintro e w5 ⟨rfl, hx5⟩
  have hb5 : Below w4.heap.size w4 w5 := Below.trans (by go_grown) (hx5.mono (by first | omega | (simp; done) | (simp; omega)))
  have n5 : w4.heap.size + 1 ≤ w5.heap.size := by have := hx5.size; (try simp at this); omega
  have B5 : Below w.heap.size w w5 := B4.trans (hb5.mono (by omega))
  have zp5 := cellB hb5 zp4
  clear zp4
  have zc5 : w5.cell? ⟨w4.heap.size, 0, none⟩ = some (.slice ac mc cc) := cellB hx5 (by go_simp)
  have ka_5 := ka_4.keep (belowSame hb5 (by omega))
  have kc_5 := kc_4.keep (belowSame hb5 (by omega))
  go_wp2
  go_region_held3 (fun w' => w'.cell? ⟨w.heap.size, 0, none⟩ = some (.slice a0 xs.length cap) ∧ w'.cell? ⟨w4.heap.size, 0, none⟩ = some (.slice ac mc cc)) (go_keep)
    (first | (go_at_call 20; refine (toPuzzle_any _ _ _ (HA.out.later (Below.trans B5 (by go_grown))) hn).mono ?_; rintro e w6 ⟨vd, rfl, kd_6, hx6⟩; (have kd_6 := kd_6.wider (B' := w5.heap.size + 0) (by first | exact Nat.le_refl _ | (simp; done) | (simp; omega)) (Nat.le_refl _)); (have hb6 : Below w5.heap.size w5 w6 := Below.trans (by go_grown) (hx6.mono (by first | omega | (simp; done) | (simp; omega)))); (have n6 : w5.heap.size + 0 ≤ w6.heap.size := by have := hx6.size; (try simp at this); omega); (have B6 : Below w.heap.size w w6 := B5.trans (hb6.mono (by omega))); (have zp6 := cellB hb6 zp5); (have zc6 := cellB hb6 zc5); (have ka_6 := ka_5.keep (belowSame hb6 (by omega))); (have kc_6 := kc_5.keep (belowSame hb6 (by omega))); (obtain ⟨ad, md, cd, hvd⟩ := own_formT kd_6.1); subst hvd) | (go_at_call 22; refine (eqPuzzle_in _ _ _ _ _ _ _ _ _ (kc_6.keep (belowSame (by go_grown) (by first | omega | (simp; done) | (simp; omega)))) (kd_6.keep (belowSame (by go_grown) (by first | omega | (simp; done) | (simp; omega)))) (by first | omega | (simp; done) | (simp; omega)) (by first | omega | (simp; done) | (simp; omega))).mono ?_; rintro e w7 ⟨rfl, hx7⟩; (have hb7 : Below w6.heap.size w6 w7 := Below.trans (by go_grown) (hx7.mono (by first | omega | (simp; done) | (simp; omega)))); (have n7 : w6.heap.size + 0 ≤ w7.heap.size := by have := hx7.size; (try simp at this); omega); (have B7 : Below w.heap.size w w7 := B6.trans (hb7.mono (by omega))); (have zp7 := cellB hb7 zp6); (have zc7 := cellB hb7 zc6); (have ka_7 := ka_6.keep (belowSame hb7 (by omega))); (have kc_7 := kc_6.keep (belowSame hb7 (by omega))); (have kd_7 := kd_6.keep (belowSame hb7 (by omega)))))
  go_wp2_with fail
  go_ret
  exact ⟨rfl, B7⟩

set_option maxHeartbeats 400000 in
theorem long_SureStar (v : Value) (xs : List Tri) (w : World) (hA : ArgT w v xs) (hn : ¬ xs.length ≤ 1048576) :
    Calls Tryd.prog 9 #[.agg #[v]] w fun e w' => e = .returned (.bool true) ∧ Below w.heap.size w w' := by
  obtain ⟨a0, cap, a, rfl, _, hm, _⟩ := hA
  go_enter Tryd.func9, Tryd.ntmps9
  go_wp2_with fail
  refine (szPuzzle_no _ _ _ _ (by omega) hm).mono ?_
  rintro e w0 ⟨rfl, hb0⟩
  go_wp2_with fail
  go_ret
  exact ⟨rfl, Below.trans (by go_grown) (hb0.mono (by first | omega | (simp; done) | (simp; omega)))⟩

theorem walk_SureStar (v : Value) (xs : List Tri) (w : World) (hA : ArgT w v xs) (hW : ClueW w) :
    Calls Tryd.prog 9 #[.agg #[v]] w fun e w' => e = .returned (.bool true) ∧ Below w.heap.size w w' := by
  by_cases hn : xs.length ≤ 1048576
  · by_cases hP : puzzleP xs
    · match hS : solZ xs with
      | [] => exact core_SureStar v xs 0 0 false w hA hW hn (fun W u B T hw h _ => sSure_none u xs W h.1.src hP hS hw) (fun W u B T hw h _ => iSure_none u xs W h.1.src hP hS hw)
      | (a, b) :: t => exact core_SureStar v xs _ _ true w hA hW hn (fun W u B T hw h _ => sSure_some u xs W h.1.src _ a b t hP hS rfl hw) (fun W u B T hw h _ => iSure_some u xs W h.1.src _ a b t hP hS rfl hw)
    · exact core_SureStar v xs 0 0 false w hA hW hn (fun W u B T hw h _ => sSure_bad u xs W h.1.src hP hw) (fun W u B T hw h _ => iSure_bad u xs W h.1.src hP hw)
  · exact long_SureStar v xs w hA hn
end Go.Proofs.YtpliaenpencocaaDoor
