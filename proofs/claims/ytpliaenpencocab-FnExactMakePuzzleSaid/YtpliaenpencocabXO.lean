/- MakePuzzle where it is refused, and the law. -/
import Derived.Test.YtpliaenpencocabXN
import Derived.Test.YtpliaenpencocabX2
namespace Go.Proofs.Ytpliaenpencocab
open Go.RowKit
set_option linter.unusedVariables false

set_option maxHeartbeats 1000000 in
theorem sMake_no1 (p s n seed : Int) (w : World) (hs : ¬ hidP p s) : Calls Try.prog 7 #[.agg #[.int .i64 p, .int .i64 s], .int .i64 n, .int .i64 seed] w (GivesZ w [] false) := by
  have HH := Lib.hid (show decide (hidP p s) = false from decide_eq_false hs)
  clear hs
  go_enter Try.func7, Try.ntmps7
  go_wp2_with (first
    | (go_at_call 30; (with_reducible refine (pzHidden_any p s false _ HH.out).mono ?_); rintro e w1 ⟨rfl, hb1⟩; (have c0 : w1.cell? ⟨w.heap.size, 0, none⟩ = some (.int .i64 p) := cellB hb1 (by go_simp)); (have c2 : w1.cell? ⟨w.heap.size + 1, 0, none⟩ = some (.slice none 0 0) := cellB hb1 (by go_simp)); (have f2 : w1.frozen? ⟨w.heap.size + 1, 0, none⟩ = false := frozenB hb1 (by simp) (by go_simp)); (have hB1 : Below w.heap.size w w1 := Below.trans (by go_grown) (hb1.mono (by first | omega | (simp; done) | (simp; omega))))))
  refine bodyPost_ret (v := .tuple #[.agg #[.slice none 0 0], .bool false]) (by simp [results, Try.results7, go_sem, c2]) rfl ⟨_, rfl, ?_, ?_⟩
  · exact ⟨World.ownsRow_nil _ _ _ _, fun k hk => by simp [Value.ownBlock] at hk⟩
  · first | exact hB1.setC _ _ (by show _ ≤ w.heap.size + 1; omega) | exact hB1

set_option maxHeartbeats 1000000 in
theorem iMake_no1 (p s n seed : Int) (w : World) (hs : ¬ hidP p s) : Calls Try.prog 9 #[.agg #[.int .i64 p, .int .i64 s], .int .i64 n, .int .i64 seed] w (GivesZ w [] false) := by
  have HH := Lib.hid (show decide (hidP p s) = false from decide_eq_false hs)
  clear hs
  go_enter Try.func9, Try.ntmps9
  go_wp2_with (first
    | (go_at_call 34; (with_reducible refine (isHidden_any p s false _ HH.out).mono ?_); rintro e w1 ⟨rfl, hb1⟩; (have c0 : w1.cell? ⟨w.heap.size, 0, none⟩ = some (.int .i64 p) := cellB hb1 (by go_simp)); (have c2 : w1.cell? ⟨w.heap.size + 1, 0, none⟩ = some (.slice none 0 0) := cellB hb1 (by go_simp)); (have f2 : w1.frozen? ⟨w.heap.size + 1, 0, none⟩ = false := frozenB hb1 (by simp) (by go_simp)); (have hB1 : Below w.heap.size w w1 := Below.trans (by go_grown) (hb1.mono (by first | omega | (simp; done) | (simp; omega))))))
  refine bodyPost_ret (v := .tuple #[.agg #[.slice none 0 0], .bool false]) (by simp [results, Try.results9, go_sem, c2]) rfl ⟨_, rfl, ?_, ?_⟩
  · exact ⟨World.ownsRow_nil _ _ _ _, fun k hk => by simp [Value.ownBlock] at hk⟩
  · first | exact hB1.setC _ _ (by show _ ≤ w.heap.size + 1; omega) | exact hB1

set_option maxHeartbeats 1000000 in
theorem sMake_no2 (p s n seed : Int) (w : World) (hs : hidP p s) (hn : ¬ (0 ≤ n ∧ n ≤ 6)) : Calls Try.prog 7 #[.agg #[.int .i64 p, .int .i64 s], .int .i64 n, .int .i64 seed] w (GivesZ w [] false) := by
  have HH := Lib.hid (show decide (hidP p s) = true from decide_eq_true hs)
  clear hs
  have HN := Lib.hid hn
  clear hn
  go_enter Try.func7, Try.ntmps7
  go_wp2_with (first
    | (go_at_call 30; (with_reducible refine (pzHidden_any p s true _ HH.out).mono ?_); rintro e w1 ⟨rfl, hb1⟩; (have c0 : w1.cell? ⟨w.heap.size, 0, none⟩ = some (.int .i64 p) := cellB hb1 (by go_simp)); (have c2 : w1.cell? ⟨w.heap.size + 1, 0, none⟩ = some (.slice none 0 0) := cellB hb1 (by go_simp)); (have f2 : w1.frozen? ⟨w.heap.size + 1, 0, none⟩ = false := frozenB hb1 (by simp) (by go_simp)); (have hB1 : Below w.heap.size w w1 := Below.trans (by go_grown) (hb1.mono (by first | omega | (simp; done) | (simp; omega)))))
    | (go_at_call 31; (with_reducible refine (l1In_no n 0 6 _ HN.out).mono ?_); rintro e w2 ⟨rfl, rfl⟩))
  refine bodyPost_ret (v := .tuple #[.agg #[.slice none 0 0], .bool false]) (by simp [results, Try.results7, go_sem, c2]) rfl ⟨_, rfl, ?_, ?_⟩
  · exact ⟨World.ownsRow_nil _ _ _ _, fun k hk => by simp [Value.ownBlock] at hk⟩
  · first | exact hB1.setC _ _ (by show _ ≤ w.heap.size + 1; omega) | exact hB1

set_option maxHeartbeats 1000000 in
theorem sMake_no3 (p s n seed : Int) (w : World) (hs : hidP p s) (hn : 0 ≤ n ∧ n ≤ 6) (hd : ¬ (0 ≤ seed ∧ seed ≤ 9999)) : Calls Try.prog 7 #[.agg #[.int .i64 p, .int .i64 s], .int .i64 n, .int .i64 seed] w (GivesZ w [] false) := by
  have HH := Lib.hid (show decide (hidP p s) = true from decide_eq_true hs)
  clear hs
  have HN := Lib.hid hn
  clear hn
  have HS := Lib.hid hd
  clear hd
  go_enter Try.func7, Try.ntmps7
  go_wp2_with (first
    | (go_at_call 30; (with_reducible refine (pzHidden_any p s true _ HH.out).mono ?_); rintro e w1 ⟨rfl, hb1⟩; (have c0 : w1.cell? ⟨w.heap.size, 0, none⟩ = some (.int .i64 p) := cellB hb1 (by go_simp)); (have c2 : w1.cell? ⟨w.heap.size + 1, 0, none⟩ = some (.slice none 0 0) := cellB hb1 (by go_simp)); (have f2 : w1.frozen? ⟨w.heap.size + 1, 0, none⟩ = false := frozenB hb1 (by simp) (by go_simp)); (have hB1 : Below w.heap.size w w1 := Below.trans (by go_grown) (hb1.mono (by first | omega | (simp; done) | (simp; omega)))))
    | (go_at_call 31; (with_reducible refine (l1In_yes n 0 6 _ HN.out).mono ?_); rintro e w2 ⟨rfl, rfl⟩)
    | (go_at_call 31; (with_reducible refine (l1In_no seed 0 9999 _ HS.out).mono ?_); rintro e w3 ⟨rfl, rfl⟩))
  refine bodyPost_ret (v := .tuple #[.agg #[.slice none 0 0], .bool false]) (by simp [results, Try.results7, go_sem, c2]) rfl ⟨_, rfl, ?_, ?_⟩
  · exact ⟨World.ownsRow_nil _ _ _ _, fun k hk => by simp [Value.ownBlock] at hk⟩
  · first | exact hB1.setC _ _ (by show _ ≤ w.heap.size + 1; omega) | exact hB1

set_option maxHeartbeats 1000000 in
theorem iMake_no2a (p s n seed : Int) (w : World) (hs : hidP p s) (hn : n < 0) : Calls Try.prog 9 #[.agg #[.int .i64 p, .int .i64 s], .int .i64 n, .int .i64 seed] w (GivesZ w [] false) := by
  have HH := Lib.hid (show decide (hidP p s) = true from decide_eq_true hs)
  clear hs
  go_enter Try.func9, Try.ntmps9
  go_wp2_with (first
    | (go_at_call 34; (with_reducible refine (isHidden_any p s true _ HH.out).mono ?_); rintro e w1 ⟨rfl, hb1⟩; (have c0 : w1.cell? ⟨w.heap.size, 0, none⟩ = some (.int .i64 p) := cellB hb1 (by go_simp)); (have c2 : w1.cell? ⟨w.heap.size + 1, 0, none⟩ = some (.slice none 0 0) := cellB hb1 (by go_simp)); (have f2 : w1.frozen? ⟨w.heap.size + 1, 0, none⟩ = false := frozenB hb1 (by simp) (by go_simp)); (have hB1 : Below w.heap.size w w1 := Below.trans (by go_grown) (hb1.mono (by first | omega | (simp; done) | (simp; omega))))))
  refine bodyPost_ret (v := .tuple #[.agg #[.slice none 0 0], .bool false]) (by simp [results, Try.results9, go_sem, c2]) rfl ⟨_, rfl, ?_, ?_⟩
  · exact ⟨World.ownsRow_nil _ _ _ _, fun k hk => by simp [Value.ownBlock] at hk⟩
  · first | exact hB1.setC _ _ (by show _ ≤ w.heap.size + 1; omega) | exact hB1

set_option maxHeartbeats 1000000 in
theorem iMake_no2b (p s n seed : Int) (w : World) (hs : hidP p s) (hn0 : ¬ n < 0) (hn : 6 < n) : Calls Try.prog 9 #[.agg #[.int .i64 p, .int .i64 s], .int .i64 n, .int .i64 seed] w (GivesZ w [] false) := by
  have HH := Lib.hid (show decide (hidP p s) = true from decide_eq_true hs)
  clear hs
  go_enter Try.func9, Try.ntmps9
  go_wp2_with (first
    | (go_at_call 34; (with_reducible refine (isHidden_any p s true _ HH.out).mono ?_); rintro e w1 ⟨rfl, hb1⟩; (have c0 : w1.cell? ⟨w.heap.size, 0, none⟩ = some (.int .i64 p) := cellB hb1 (by go_simp)); (have c2 : w1.cell? ⟨w.heap.size + 1, 0, none⟩ = some (.slice none 0 0) := cellB hb1 (by go_simp)); (have f2 : w1.frozen? ⟨w.heap.size + 1, 0, none⟩ = false := frozenB hb1 (by simp) (by go_simp)); (have hB1 : Below w.heap.size w w1 := Below.trans (by go_grown) (hb1.mono (by first | omega | (simp; done) | (simp; omega))))))
  refine bodyPost_ret (v := .tuple #[.agg #[.slice none 0 0], .bool false]) (by simp [results, Try.results9, go_sem, c2]) rfl ⟨_, rfl, ?_, ?_⟩
  · exact ⟨World.ownsRow_nil _ _ _ _, fun k hk => by simp [Value.ownBlock] at hk⟩
  · first | exact hB1.setC _ _ (by show _ ≤ w.heap.size + 1; omega) | exact hB1

set_option maxHeartbeats 1000000 in
theorem iMake_no3a (p s n seed : Int) (w : World) (hs : hidP p s) (hn0 : ¬ n < 0) (hn : ¬ 6 < n) (hd : seed < 0) : Calls Try.prog 9 #[.agg #[.int .i64 p, .int .i64 s], .int .i64 n, .int .i64 seed] w (GivesZ w [] false) := by
  have HH := Lib.hid (show decide (hidP p s) = true from decide_eq_true hs)
  clear hs
  go_enter Try.func9, Try.ntmps9
  go_wp2_with (first
    | (go_at_call 34; (with_reducible refine (isHidden_any p s true _ HH.out).mono ?_); rintro e w1 ⟨rfl, hb1⟩; (have c0 : w1.cell? ⟨w.heap.size, 0, none⟩ = some (.int .i64 p) := cellB hb1 (by go_simp)); (have c2 : w1.cell? ⟨w.heap.size + 1, 0, none⟩ = some (.slice none 0 0) := cellB hb1 (by go_simp)); (have f2 : w1.frozen? ⟨w.heap.size + 1, 0, none⟩ = false := frozenB hb1 (by simp) (by go_simp)); (have hB1 : Below w.heap.size w w1 := Below.trans (by go_grown) (hb1.mono (by first | omega | (simp; done) | (simp; omega))))))
  refine bodyPost_ret (v := .tuple #[.agg #[.slice none 0 0], .bool false]) (by simp [results, Try.results9, go_sem, c2]) rfl ⟨_, rfl, ?_, ?_⟩
  · exact ⟨World.ownsRow_nil _ _ _ _, fun k hk => by simp [Value.ownBlock] at hk⟩
  · first | exact hB1.setC _ _ (by show _ ≤ w.heap.size + 1; omega) | exact hB1

set_option maxHeartbeats 1000000 in
theorem iMake_no3b (p s n seed : Int) (w : World) (hs : hidP p s) (hn0 : ¬ n < 0) (hn : ¬ 6 < n) (hd0 : ¬ seed < 0) (hd : 9999 < seed) : Calls Try.prog 9 #[.agg #[.int .i64 p, .int .i64 s], .int .i64 n, .int .i64 seed] w (GivesZ w [] false) := by
  have HH := Lib.hid (show decide (hidP p s) = true from decide_eq_true hs)
  clear hs
  go_enter Try.func9, Try.ntmps9
  go_wp2_with (first
    | (go_at_call 34; (with_reducible refine (isHidden_any p s true _ HH.out).mono ?_); rintro e w1 ⟨rfl, hb1⟩; (have c0 : w1.cell? ⟨w.heap.size, 0, none⟩ = some (.int .i64 p) := cellB hb1 (by go_simp)); (have c2 : w1.cell? ⟨w.heap.size + 1, 0, none⟩ = some (.slice none 0 0) := cellB hb1 (by go_simp)); (have f2 : w1.frozen? ⟨w.heap.size + 1, 0, none⟩ = false := frozenB hb1 (by simp) (by go_simp)); (have hB1 : Below w.heap.size w w1 := Below.trans (by go_grown) (hb1.mono (by first | omega | (simp; done) | (simp; omega))))))
  refine bodyPost_ret (v := .tuple #[.agg #[.slice none 0 0], .bool false]) (by simp [results, Try.results9, go_sem, c2]) rfl ⟨_, rfl, ?_, ?_⟩
  · exact ⟨World.ownsRow_nil _ _ _ _, fun k hk => by simp [Value.ownBlock] at hk⟩
  · first | exact hB1.setC _ _ (by show _ ≤ w.heap.size + 1; omega) | exact hB1

set_option maxHeartbeats 2000000 in
theorem core_MakePuzzle (p s n seed : Int) (x : List Tri) (b : Bool) (w : World) (hx : x.length ≤ 6)
    (hs : ∀ W, Calls Try.prog 7 #[.agg #[.int .i64 p, .int .i64 s], .int .i64 n, .int .i64 seed] W (GivesZ W x b))
    (hi : ∀ W, Calls Try.prog 9 #[.agg #[.int .i64 p, .int .i64 s], .int .i64 n, .int .i64 seed] W (GivesZ W x b)) :
    Calls Try.prog 3 #[.agg #[.int .i64 p, .int .i64 s], .int .i64 n, .int .i64 seed] w fun e w' => e = .returned (.bool true) ∧ Below w.heap.size w w' := by
  have HS := Lib.hid hs
  have HI := Lib.hid hi
  clear hs hi
  go_enter Try.func3, Try.ntmps3
  go_wp2_with fail
  refine (toStar_any _ _ _).mono ?_
  rintro e w1 ⟨rfl, hx1⟩
  have hb1 : Below w.heap.size w w1 := Below.trans (by go_grown) (hx1.mono (by first | omega | (simp; done) | (simp; omega)))
  have n1 : w.heap.size + 1 ≤ w1.heap.size := by have := hx1.size; (try simp at this); omega
  have B1 : Below w.heap.size w w1 := hb1
  have zsx1 : w1.cell? ⟨w.heap.size, 0, none⟩ = some (.int .i64 p) := cellB hx1 (by go_simp)
  have zsy1 : w1.cell? ⟨w.heap.size, 1, none⟩ = some (.int .i64 s) := cellB hx1 (by go_simp)
  go_wp2_with fail
  refine (HS.out _).mono ?_
  rintro e w2 ⟨vw, rfl, kw_2, hx2⟩
  have hb2 : Below w1.heap.size w1 w2 := Below.trans (by go_grown) (hx2.mono (by first | omega | (simp; done) | (simp; omega)))
  have n2 : w1.heap.size + 0 ≤ w2.heap.size := by have := hx2.size; (try simp at this); omega
  have B2 : Below w.heap.size w w2 := B1.trans (hb2.mono (by omega))
  have zsx2 := cellB hb2 zsx1
  have zsy2 := cellB hb2 zsy1
  clear zsx1 zsy1
  obtain ⟨aw, mw, cw, hvw⟩ := own_formT kw_2.1
  subst hvw
  have qzsxw := cellB ((Below.refl w2.heap.size w2).alloc (Nat.le_refl _) (.cells #[Value.slice aw mw cw] 26)) zsx2
  have qzsyw := cellB ((Below.refl w2.heap.size w2).alloc (Nat.le_refl _) (.cells #[Value.slice aw mw cw] 26)) zsy2
  go_wp2_with fail
  refine (toStar_any _ _ _).mono ?_
  rintro e w3 ⟨rfl, hx3⟩
  have hb3 : Below w2.heap.size w2 w3 := Below.trans (by go_grown) (hx3.mono (by first | omega | (simp; done) | (simp; omega)))
  have n3 : w2.heap.size + 1 ≤ w3.heap.size := by have := hx3.size; (try simp at this); omega
  have B3 : Below w.heap.size w w3 := B2.trans (hb3.mono (by omega))
  have zsx3 := cellB hb3 zsx2
  have zsy3 := cellB hb3 zsy2
  clear zsx2 zsy2
  have zw3 : w3.cell? ⟨w2.heap.size, 0, none⟩ = some (.slice aw mw cw) := cellB hx3 (by go_simp)
  have kw_3 := kw_2.keep (belowSame hb3 (by omega))
  go_wp2_with fail
  refine (HI.out _).mono ?_
  rintro e w4 ⟨vg, rfl, kg_4, hx4⟩
  have hb4 : Below w3.heap.size w3 w4 := Below.trans (by go_grown) (hx4.mono (by first | omega | (simp; done) | (simp; omega)))
  have n4 : w3.heap.size + 0 ≤ w4.heap.size := by have := hx4.size; (try simp at this); omega
  have B4 : Below w.heap.size w w4 := B3.trans (hb4.mono (by omega))
  have zsx4 := cellB hb4 zsx3
  have zsy4 := cellB hb4 zsy3
  have zw4 := cellB hb4 zw3
  clear zsx3 zsy3 zw3
  have kw_4 := kw_3.keep (belowSame hb4 (by omega))
  obtain ⟨ag, mg, cg, hvg⟩ := own_formT kg_4.1
  subst hvg
  have qzsxg := cellB ((Below.refl w4.heap.size w4).alloc (Nat.le_refl _) (.cells #[Value.slice ag mg cg] 26)) zsx4
  have qzsyg := cellB ((Below.refl w4.heap.size w4).alloc (Nat.le_refl _) (.cells #[Value.slice ag mg cg] 26)) zsy4
  have qzwg := cellB ((Below.refl w4.heap.size w4).alloc (Nat.le_refl _) (.cells #[Value.slice ag mg cg] 26)) zw4
  go_wp2_with fail
  refine (eqPuzzle_in _ _ _ _ _ _ _ _ _ (kg_4.keep (belowSame (by go_grown) (by first | omega | (simp; done) | (simp; omega)))) (kw_4.keep (belowSame (by go_grown) (by first | omega | (simp; done) | (simp; omega)))) (by first | omega | (simp; done) | (simp; omega)) (by first | omega | (simp; done) | (simp; omega))).mono ?_
  rintro e w5 ⟨rfl, hx5⟩
  have hb5 : Below w4.heap.size w4 w5 := Below.trans (by go_grown) (hx5.mono (by first | omega | (simp; done) | (simp; omega)))
  have n5 : w4.heap.size + 1 ≤ w5.heap.size := by have := hx5.size; (try simp at this); omega
  have B5 : Below w.heap.size w w5 := B4.trans (hb5.mono (by omega))
  have zsx5 := cellB hb5 zsx4
  have zsy5 := cellB hb5 zsy4
  have zw5 := cellB hb5 zw4
  clear zsx4 zsy4 zw4
  have zg5 : w5.cell? ⟨w4.heap.size, 0, none⟩ = some (.slice ag mg cg) := cellB hx5 (by go_simp)
  have kw_5 := kw_4.keep (belowSame hb5 (by omega))
  have kg_5 := kg_4.keep (belowSame hb5 (by omega))
  go_wp2_with fail
  refine (markPuzzle_in _ _ 1 _ _ _ _ kg_5 (by omega) (by omega) (by omega) (by omega)).mono ?_
  rintro e w6 ⟨rfl, kg_6, o6⟩
  have n6 := o6.size
  have B6 := B5.trans (o6.below (C := w.heap.size) (by omega) (by omega))
  have zsx6 := o6.cell (by omega) zsx5
  have zsy6 := o6.cell (by omega) zsy5
  have zw6 := o6.cell (by omega) zw5
  have zg6 := o6.cell (by omega) zg5
  clear zsx5 zsy5 zw5 zg5
  have kw_6 := kw_5.keep (o6.same_in (by omega) (by omega))
  go_wp2_with fail
  refine (heldPuzzle_in _ 1 x.length _ _ _ _ kg_6 (by omega) (by omega) (by omega) (by omega)).mono ?_
  rintro e w7 ⟨rfl, hx7⟩
  have hb7 : Below w6.heap.size w6 w7 := Below.trans (by go_grown) (hx7.mono (by first | omega | (simp; done) | (simp; omega)))
  have n7 : w6.heap.size + 0 ≤ w7.heap.size := by have := hx7.size; (try simp at this); omega
  have B7 : Below w.heap.size w w7 := B6.trans (hb7.mono (by omega))
  have zsx7 := cellB hb7 zsx6
  have zsy7 := cellB hb7 zsy6
  have zw7 := cellB hb7 zw6
  have zg7 := cellB hb7 zg6
  clear zsx6 zsy6 zw6 zg6
  have kw_7 := kw_6.keep (belowSame hb7 (by omega))
  have kg_7 := kg_6.keep (belowSame hb7 (by omega))
  go_wp2_with fail
  refine (toStar_any _ _ _).mono ?_
  rintro e w8 ⟨rfl, hx8⟩
  have hb8 : Below w7.heap.size w7 w8 := Below.trans (by go_grown) (hx8.mono (by first | omega | (simp; done) | (simp; omega)))
  have n8 : w7.heap.size + 0 ≤ w8.heap.size := by have := hx8.size; (try simp at this); omega
  have B8 : Below w.heap.size w w8 := B7.trans (hb8.mono (by omega))
  have zsx8 := cellB hb8 zsx7
  have zsy8 := cellB hb8 zsy7
  have zw8 := cellB hb8 zw7
  have zg8 := cellB hb8 zg7
  clear zsx7 zsy7 zw7 zg7
  have kw_8 := kw_7.keep (belowSame hb8 (by omega))
  have kg_8 := kg_7.keep (belowSame hb8 (by omega))
  go_wp2_with fail
  refine (HI.out _).mono ?_
  rintro e w9 ⟨vh, rfl, kh_9, hx9⟩
  have hb9 : Below w8.heap.size w8 w9 := Below.trans (by go_grown) (hx9.mono (by first | omega | (simp; done) | (simp; omega)))
  have n9 : w8.heap.size + 0 ≤ w9.heap.size := by have := hx9.size; (try simp at this); omega
  have B9 : Below w.heap.size w w9 := B8.trans (hb9.mono (by omega))
  have zsx9 := cellB hb9 zsx8
  have zsy9 := cellB hb9 zsy8
  have zw9 := cellB hb9 zw8
  have zg9 := cellB hb9 zg8
  clear zsx8 zsy8 zw8 zg8
  have kw_9 := kw_8.keep (belowSame hb9 (by omega))
  have kg_9 := kg_8.keep (belowSame hb9 (by omega))
  obtain ⟨ah, mh, ch, hvh⟩ := own_formT kh_9.1
  subst hvh
  have qzsxh := cellB ((Below.refl w9.heap.size w9).alloc (Nat.le_refl _) (.cells #[Value.slice ah mh ch] 26)) zsx9
  have qzsyh := cellB ((Below.refl w9.heap.size w9).alloc (Nat.le_refl _) (.cells #[Value.slice ah mh ch] 26)) zsy9
  have qzwh := cellB ((Below.refl w9.heap.size w9).alloc (Nat.le_refl _) (.cells #[Value.slice ah mh ch] 26)) zw9
  have qzgh := cellB ((Below.refl w9.heap.size w9).alloc (Nat.le_refl _) (.cells #[Value.slice ah mh ch] 26)) zg9
  go_wp2_with fail
  refine (eqPuzzle_in _ _ _ _ _ _ _ _ _ (kh_9.keep (belowSame (by go_grown) (by first | omega | (simp; done) | (simp; omega)))) (kw_9.keep (belowSame (by go_grown) (by first | omega | (simp; done) | (simp; omega)))) (by first | omega | (simp; done) | (simp; omega)) (by first | omega | (simp; done) | (simp; omega))).mono ?_
  rintro e w10 ⟨rfl, hx10⟩
  have hb10 : Below w9.heap.size w9 w10 := Below.trans (by go_grown) (hx10.mono (by first | omega | (simp; done) | (simp; omega)))
  have n10 : w9.heap.size + 1 ≤ w10.heap.size := by have := hx10.size; (try simp at this); omega
  have B10 : Below w.heap.size w w10 := B9.trans (hb10.mono (by omega))
  have zsx10 := cellB hb10 zsx9
  have zsy10 := cellB hb10 zsy9
  have zw10 := cellB hb10 zw9
  have zg10 := cellB hb10 zg9
  clear zsx9 zsy9 zw9 zg9
  have zh10 : w10.cell? ⟨w9.heap.size, 0, none⟩ = some (.slice ah mh ch) := cellB hx10 (by go_simp)
  have kw_10 := kw_9.keep (belowSame hb10 (by omega))
  have kg_10 := kg_9.keep (belowSame hb10 (by omega))
  have kh_10 := kh_9.keep (belowSame hb10 (by omega))
  go_wp2_with fail
  refine (heldPuzzle_in _ 1 x.length _ _ _ _ kg_10 (by omega) (by omega) (by omega) (by omega)).mono ?_
  rintro e w11 ⟨rfl, hx11⟩
  have hb11 : Below w10.heap.size w10 w11 := Below.trans (by go_grown) (hx11.mono (by first | omega | (simp; done) | (simp; omega)))
  have n11 : w10.heap.size + 0 ≤ w11.heap.size := by have := hx11.size; (try simp at this); omega
  have B11 : Below w.heap.size w w11 := B10.trans (hb11.mono (by omega))
  have zsx11 := cellB hb11 zsx10
  have zsy11 := cellB hb11 zsy10
  have zw11 := cellB hb11 zw10
  have zg11 := cellB hb11 zg10
  have zh11 := cellB hb11 zh10
  clear zsx10 zsy10 zw10 zg10 zh10
  have kw_11 := kw_10.keep (belowSame hb11 (by omega))
  have kg_11 := kg_10.keep (belowSame hb11 (by omega))
  have kh_11 := kh_10.keep (belowSame hb11 (by omega))
  go_wp2_with fail
  go_ret
  exact ⟨rfl, B11⟩

theorem walk_MakePuzzle (p s n seed : Int) (w : World) (_ : (Lit.int .i64 p).wf = true) (_ : (Lit.int .i64 s).wf = true) (_ : (Lit.int .i64 n).wf = true) (_ : (Lit.int .i64 seed).wf = true) :
    Calls Try.prog 3 #[.agg #[.int .i64 p, .int .i64 s], .int .i64 n, .int .i64 seed] w fun e w' => e = .returned (.bool true) ∧ Below w.heap.size w w' := by
  by_cases hh : hidP p s
  · by_cases hn : 0 ≤ n ∧ n ≤ 6
    · by_cases hd : 0 ≤ seed ∧ seed ≤ 9999
      · have hh' := hh
        unfold hidP at hh'
        obtain ⟨p, rfl⟩ := Int.eq_ofNat_of_zero_le (show 0 ≤ p by omega)
        obtain ⟨s, rfl⟩ := Int.eq_ofNat_of_zero_le (show 0 ≤ s by omega)
        obtain ⟨n, rfl⟩ := Int.eq_ofNat_of_zero_le hn.1
        obtain ⟨seed, rfl⟩ := Int.eq_ofNat_of_zero_le hd.1
        exact core_MakePuzzle _ _ _ _ (madeL p s seed n) true w (by rw [madeL_length]; omega) (fun W => sMake_yes p s n seed W (by omega) (by omega) (by omega)) (fun W => iMake_yes p s n seed W (by omega) (by omega) (by omega))
      · refine core_MakePuzzle _ _ _ _ [] false w (by simp) (fun W => sMake_no3 p s n seed W hh hn hd) (fun W => ?_)
        by_cases h0 : seed < 0
        · exact iMake_no3a p s n seed W hh (by omega) (by omega) h0
        · exact iMake_no3b p s n seed W hh (by omega) (by omega) h0 (by omega)
    · refine core_MakePuzzle _ _ _ _ [] false w (by simp) (fun W => sMake_no2 p s n seed W hh hn) (fun W => ?_)
      by_cases h0 : n < 0
      · exact iMake_no2a p s n seed W hh h0
      · exact iMake_no2b p s n seed W hh h0 (by omega)
  · exact core_MakePuzzle _ _ _ _ [] false w (by simp) (fun W => sMake_no1 p s n seed W hh) (fun W => iMake_no1 p s n seed W hh)
end Go.Proofs.Ytpliaenpencocab
