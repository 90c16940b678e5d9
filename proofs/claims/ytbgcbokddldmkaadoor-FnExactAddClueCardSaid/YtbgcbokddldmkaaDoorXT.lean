/- AddClue: both sides, the law. -/
import Derived.Test.YtbgcbokddldmkaaDoorXQ
import Derived.Test.YtbgcbokddldmkaaDoorXZ
import Derived.Test.YtbgcbokddldmkaaDoorX7
import Derived.ArgAppend
import Derived.Deep.Cut
namespace Go.Proofs.YtbgcbokddldmkaaDoor
open Go.RowKit
set_option linter.unusedVariables false

/-- An append onto a slice that is full: a new row. -/
theorem run_append_full {P : Program} {w : World} (t ty : TypeId) (e : TypeId) (ht : P.underlying t = some (.slice e))
    (hi : (P.info? e).map (fun i => (i.zero, i.size, i.bytes)) = some (some (.agg #[.int .i64 0, .int .i64 0, .int .i64 0]), 3, 24)) (a0 : Option Addr) (n : Nat) (x : Value) (xs ys : List Tri) (hI : SrcT w (.slice a0 n n) xs) (hx : SrcT w x ys)
    (hne : 0 < ys.length) (hn : xs.length + ys.length ≤ 1000000000) :
    ∃ v' w', (Builtin.append_ #[t, t] ty #[.slice a0 n n, x]).run P w = .ok v' w' ∧ Trips w' w.heap.size e v' (xs ++ ys) ∧ w.grownBy w' none := by
  rcases hI with ⟨hv, rfl⟩ | ⟨b, off, cap, hv, hm, hm2, hc⟩
  · obtain ⟨rfl, rfl⟩ : a0 = none ∧ n = 0 := by simpa using hv
    obtain ⟨v', w', hr, h2, h3, _⟩ := run_append_trips (P := P) (w := w) t ty w.heap.size e ht hi (.slice none 0 0) x [] ys (World.ownsRow_nil _ _ _ _) hx hn (Nat.le_refl _)
    exact ⟨v', w', hr, h2, h3⟩
  · obtain ⟨rfl, rfl, rfl⟩ : a0 = some ⟨b, off, none⟩ ∧ n = xs.length ∧ n = cap := by simpa using hv
    obtain ⟨i, hi, hz0, hz1, hz2⟩ := info_parts hi
    rcases hx with ⟨_, rfl⟩ | ⟨b2, off2, cap2, rfl, hm', hm2', hc2⟩
    · simp at hne
    · obtain ⟨v', w', hr, h2, h3⟩ := run_append_arg_grows (P := P) w t ty e i (.agg #[.int .i64 0, .int .i64 0, .int .i64 0]) 3 24 ht hi hz0 hz1 hz2 rfl (by decide) ⟨b, off, none⟩ xs.length xs.length ((flatT xs).map (Value.int .i64)) (by simp [flatT_length]) (flatT_cells hc)
        ⟨b2, off2, none⟩ ys.length cap2 ((flatT ys).map (Value.int .i64)) (by simp [flatT_length]) (flatT_cells hc2) (by omega) (by unfold maxLen; omega) (by omega)
      refine ⟨v', w', hr, ?_, h3⟩
      unfold Trips
      rw [List.length_append, flatT_append, List.map_append]
      exact h2

theorem SrcT.grown {w w' : World} {b off n c : Nat} {ys : List Tri} {row : Option Nat} (h : SrcT w (.slice (some ⟨b, off, none⟩) n c) ys) (hg : w.grownBy w' row) (hne : some b ≠ row) : SrcT w' (.slice (some ⟨b, off, none⟩) n c) ys := by
  rcases h with ⟨h, _⟩ | ⟨b', off', c0, hv, hm, hm2, hcl⟩
  · cases h
  · cases hv
    exact .inr ⟨b, off, c, rfl, hm, hm2, fun i hi => ⟨hg.cell (hcl i hi).1 hne, hg.cell (hcl i hi).2.1 hne, hg.cell (hcl i hi).2.2 hne⟩⟩

theorem srcT_full {w : World} {a0 : Option Addr} {cap : Nat} {xs : List Tri} (h : SrcT w (.slice a0 xs.length cap) xs) : SrcT w (.slice a0 xs.length xs.length) xs := by
  rcases h with ⟨hv, rfl⟩ | ⟨b, off, c0, hv, hm, hm2, hcl⟩
  · obtain ⟨rfl, _⟩ : a0 = none ∧ cap = 0 := by simpa using hv
    exact .inl ⟨rfl, rfl⟩
  · obtain ⟨rfl, rfl⟩ : a0 = some ⟨b, off, none⟩ ∧ cap = c0 := by simpa using hv
    exact .inr ⟨b, off, xs.length, rfl, Nat.le_refl _, by omega, hcl⟩

theorem wp_append_full {P : Program} {w : World} {o : Oper} {a : Act} {K : Act → World → Prop} {Q : Exit → Act → World → Prop} (s x : Operand) (t : TypeId)
    (ho : o.op = .call { callee := .builtin .append, args := #[s, x], argTypes := #[t, t] }) (e : TypeId) (ht : P.underlying t = some (.slice e))
    (hi : (P.info? e).map (fun i => (i.zero, i.size, i.bytes)) = some (some (.agg #[.int .i64 0, .int .i64 0, .int .i64 0]), 3, 24)) (a0 : Option Addr) (n : Nat) (u : Value) (xs ys : List Tri) (hs : a.eval s = .slice a0 n n) (hu : a.eval x = u) (hI : SrcT w (.slice a0 n n) xs) (hx : SrcT w u ys)
    (hne : 0 < ys.length) (hn : xs.length + ys.length ≤ 1000000000)
    (h : ∀ v' w', Trips w' w.heap.size e v' (xs ++ ys) → w.grownBy w' none → K (a.put o.dst v') w') : o.wp P a w K Q := by
  obtain ⟨v', w', hr, h2, h3⟩ := run_append_full (P := P) (w := w) t o.type e ht hi a0 n u xs ys hI hx hne hn
  unfold Oper.wp execOp
  simp only [ho, resolve, invoke, builtin, Sem.run_bind, Sem.run_pure, Result.andThen_ok, List.map_toArray, List.map_cons, List.map_nil, hs, hu, hr]
  exact h v' w' h2 h3

theorem Trips.boxedAt (W : World) (B : Nat) (e : TypeId) (xs : List Tri) (n : Nat) (hn : W.heap.size = n) (hB : B ≤ n) (hl : xs.length ≤ 1000000000) :
    Trips (W.alloc (.cells ((flatT xs).map (Value.int .i64)).toArray e)) B e (.slice (some ⟨n, 0, none⟩) xs.length xs.length) xs := by
  subst hn
  exact Trips.boxed W B e xs hB hl

/-- The boxes of a call that adds a clue: the puzzle, the clue, the result; what was there before is kept. -/
structure Adds (w : World) (p : Value) (k a b : Int) (w' : World) : Prop where
  bel : Below w.heap.size w w'
  c0 : w'.cell? ⟨w.heap.size, 0, none⟩ = some p
  cx : w'.cell? ⟨w.heap.size + 1, 0, none⟩ = some (.int .i64 k)
  cy : w'.cell? ⟨w.heap.size + 1, 1, none⟩ = some (.int .i64 a)
  cz : w'.cell? ⟨w.heap.size + 1, 2, none⟩ = some (.int .i64 b)
  res : ∃ v, w'.cell? ⟨w.heap.size + 2, 0, none⟩ = some v
  fr : w'.frozen? ⟨w.heap.size + 2, 0, none⟩ = false
  top : w.heap.size + 3 ≤ w'.heap.size

theorem Adds.later {w w' w'' : World} {p : Value} {k a b : Int} (h : Adds w p k a b w') (hb : Below (w.heap.size + 3) w' w'') : Adds w p k a b w'' := by
  have hc : ∀ (i o : Nat), i < 3 → w''.cell? ⟨w.heap.size + i, o, none⟩ = w'.cell? ⟨w.heap.size + i, o, none⟩ := fun i o hi => hb.cell (p := ⟨w.heap.size + i, o, none⟩) (by show w.heap.size + i < _; omega)
  refine ⟨h.bel.trans (hb.mono (by omega)), (hc 0 0 (by omega)).trans h.c0, (hc 1 0 (by omega)).trans h.cx, (hc 1 1 (by omega)).trans h.cy, (hc 1 2 (by omega)).trans h.cz, ?_, ?_, Nat.le_trans h.top hb.size⟩
  · obtain ⟨v, hv⟩ := h.res
    exact ⟨v, (hc 2 0 (by omega)).trans hv⟩
  · exact (hb.frozen (p := ⟨w.heap.size + 2, 0, none⟩) (by show w.heap.size + 2 < _; omega)).trans h.fr

theorem Adds.set {w w' : World} {p : Value} {k a b : Int} (h : Adds w p k a b w') (v : Value) : Adds w p k a b (w'.setCell ⟨w.heap.size + 2, 0, none⟩ v) := by
  have hc : ∀ (i o : Nat), i < 2 → (w'.setCell ⟨w.heap.size + 2, 0, none⟩ v).cell? ⟨w.heap.size + i, o, none⟩ = w'.cell? ⟨w.heap.size + i, o, none⟩ := fun i o hi => by
    unfold World.cell?
    rw [setCell_other _ _ _ (by show w.heap.size + 2 ≠ w.heap.size + i; omega)]
  obtain ⟨u, hu⟩ := h.res
  refine ⟨h.bel.setC _ _ (by show _ ≤ w.heap.size + 2; omega), (hc 0 0 (by omega)).trans h.c0, (hc 1 0 (by omega)).trans h.cx, (hc 1 1 (by omega)).trans h.cy, (hc 1 2 (by omega)).trans h.cz, ?_, ?_, ?_⟩
  · exact ⟨v, by go_simp⟩
  · rw [World.frozen?_setCell]; exact h.fr
  · simpa using h.top

set_option maxHeartbeats 1000000 in
theorem iAddClue_no1 (u : Value) (xs : List Tri) (w : World) (hx : SrcT w u xs) (k a b : Int) (hW : ClueW w) (hP : ¬ puzzleP xs) : Calls Tryd.prog 28 #[.agg #[u], .agg #[.int .i64 k, .int .i64 a, .int .i64 b]] w (GivesZ w [] false) := by
  have HX := Lib.hid hx
  have HW := Lib.hid hW
  have HP := Lib.hid (show decide (puzzleP xs) = false from decide_eq_false hP)
  obtain ⟨a0, cap, g, off, rfl, ha, hcap, hcm, _⟩ := hx.form
  unfold maxLen at hcm
  clear hx hW hP ha
  go_enter Tryd.func28, Tryd.ntmps28
  go_wp2_with (first | (go_at_call 62; (refine (iIsPuzzle_any _ xs false _ (HX.out.later (by go_grown)) HP.out (HW.out.later (by go_grown))).mono ?_); rintro e w1 ⟨rfl, hb1⟩; go_loud ((have A1 : Adds w (.slice a0 xs.length cap) k a b w1 := Adds.later (w' := ((w.alloc (.cells #[.slice a0 xs.length cap] 31)).alloc (.cells #[.int .i64 k, .int .i64 a, .int .i64 b] 44)).alloc (.cells #[.slice none 0 0] 31)) ⟨by go_grown, by go_simp, by go_simp, by go_simp, by go_simp, ⟨.slice none 0 0, by go_simp⟩, by go_simp, by simp⟩ (hb1.mono (by simp))); (have c0 := A1.c0); (have cx := A1.cx); (have cy := A1.cy); (have cz := A1.cz); (obtain ⟨vr1, c2⟩ := A1.res); (have f2 := A1.fr))))
  refine bodyPost_ret (v := .tuple #[.agg #[.slice none 0 0], .bool false]) (by simp [results, Tryd.results28, go_sem, c2]) rfl ⟨_, rfl, ?_, ?_⟩
  · exact ⟨World.ownsRow_nil _ _ _ _, fun k hk => by simp [Value.ownBlock] at hk⟩
  · exact A1.bel.setC _ _ (by show _ ≤ w.heap.size + 2; omega)

set_option maxHeartbeats 1000000 in
theorem sAddClue_no1 (u : Value) (xs : List Tri) (w : World) (hx : SrcT w u xs) (k a b : Int) (hW : ClueW w) (hP : ¬ puzzleP xs) : Calls Tryd.prog 26 #[.agg #[u], .agg #[.int .i64 k, .int .i64 a, .int .i64 b]] w (GivesZ w [] false) := by
  have HX := Lib.hid hx
  have HW := Lib.hid hW
  have HP := Lib.hid (show decide (puzzleP xs) = false from decide_eq_false hP)
  obtain ⟨a0, cap, g, off, rfl, ha, hcap, hcm, _⟩ := hx.form
  unfold maxLen at hcm
  clear hx hW hP ha
  go_enter Tryd.func26, Tryd.ntmps26
  go_wp2_with (first | (go_at_call 53; (refine (pzGood_any _ xs false _ (HX.out.later (by go_grown)) HP.out).mono ?_); rintro e w1 ⟨rfl, hb1⟩; go_loud ((have A1 : Adds w (.slice a0 xs.length cap) k a b w1 := Adds.later (w' := ((w.alloc (.cells #[.slice a0 xs.length cap] 31)).alloc (.cells #[.int .i64 k, .int .i64 a, .int .i64 b] 44)).alloc (.cells #[.slice none 0 0] 31)) ⟨by go_grown, by go_simp, by go_simp, by go_simp, by go_simp, ⟨.slice none 0 0, by go_simp⟩, by go_simp, by simp⟩ (hb1.mono (by simp))); (have c0 := A1.c0); (have cx := A1.cx); (have cy := A1.cy); (have cz := A1.cz); (obtain ⟨vr1, c2⟩ := A1.res); (have f2 := A1.fr))))
  refine bodyPost_ret (v := .tuple #[.agg #[.slice none 0 0], .bool false]) (by simp [results, Tryd.results26, go_sem, c2]) rfl ⟨_, rfl, ?_, ?_⟩
  · exact ⟨World.ownsRow_nil _ _ _ _, fun k hk => by simp [Value.ownBlock] at hk⟩
  · exact A1.bel.setC _ _ (by show _ ≤ w.heap.size + 2; omega)

set_option maxHeartbeats 1000000 in
theorem iAddClue_no2 (u : Value) (xs : List Tri) (w : World) (hx : SrcT w u xs) (k a b : Int) (hW : ClueW w) (hP : puzzleP xs) (hC : ¬ clueP (k, a, b)) : Calls Tryd.prog 28 #[.agg #[u], .agg #[.int .i64 k, .int .i64 a, .int .i64 b]] w (GivesZ w [] false) := by
  have HX := Lib.hid hx
  have HW := Lib.hid hW
  have HP := Lib.hid (show decide (puzzleP xs) = true from decide_eq_true hP)
  have HC := Lib.hid (show decide (clueP (k, a, b)) = false from decide_eq_false hC)
  clear hC
  obtain ⟨a0, cap, g, off, rfl, ha, hcap, hcm, _⟩ := hx.form
  unfold maxLen at hcm
  clear hx hW hP ha
  go_enter Tryd.func28, Tryd.ntmps28
  go_wp2_with (first | (go_at_call 62; (refine (iIsPuzzle_any _ xs true _ (HX.out.later (by go_grown)) HP.out (HW.out.later (by go_grown))).mono ?_); rintro e w1 ⟨rfl, hb1⟩; go_loud ((have A1 : Adds w (.slice a0 xs.length cap) k a b w1 := Adds.later (w' := ((w.alloc (.cells #[.slice a0 xs.length cap] 31)).alloc (.cells #[.int .i64 k, .int .i64 a, .int .i64 b] 44)).alloc (.cells #[.slice none 0 0] 31)) ⟨by go_grown, by go_simp, by go_simp, by go_simp, by go_simp, ⟨.slice none 0 0, by go_simp⟩, by go_simp, by simp⟩ (hb1.mono (by simp))); (have c0 := A1.c0); (have cx := A1.cx); (have cy := A1.cy); (have cz := A1.cz); (obtain ⟨vr1, c2⟩ := A1.res); (have f2 := A1.fr))) | (go_at_call 66; (refine (iIsClue_any k a b false _ HC.out (HW.out.later A1.bel)).mono ?_); rintro e w2 ⟨rfl, hb2⟩; (have A2 := A1.later (hb2.mono A1.top)); clear c0 cx cy cz c2 f2; (have c0 := A2.c0); (have cx := A2.cx); (have cy := A2.cy); (have cz := A2.cz); (obtain ⟨vr2, c2⟩ := A2.res); (have f2 := A2.fr)))
  refine bodyPost_ret (v := .tuple #[.agg #[.slice none 0 0], .bool false]) (by simp [results, Tryd.results28, go_sem, c2]) rfl ⟨_, rfl, ?_, ?_⟩
  · exact ⟨World.ownsRow_nil _ _ _ _, fun k hk => by simp [Value.ownBlock] at hk⟩
  · exact A2.bel.setC _ _ (by show _ ≤ w.heap.size + 2; omega)

set_option maxHeartbeats 1000000 in
theorem sAddClue_no2 (u : Value) (xs : List Tri) (w : World) (hx : SrcT w u xs) (k a b : Int) (hW : ClueW w) (hP : puzzleP xs) (hC : ¬ clueP (k, a, b)) : Calls Tryd.prog 26 #[.agg #[u], .agg #[.int .i64 k, .int .i64 a, .int .i64 b]] w (GivesZ w [] false) := by
  have HX := Lib.hid hx
  have HW := Lib.hid hW
  have HP := Lib.hid (show decide (puzzleP xs) = true from decide_eq_true hP)
  have HC := Lib.hid (show decide (clueP (k, a, b)) = false from decide_eq_false hC)
  clear hC
  obtain ⟨a0, cap, g, off, rfl, ha, hcap, hcm, _⟩ := hx.form
  unfold maxLen at hcm
  clear hx hW hP ha
  go_enter Tryd.func26, Tryd.ntmps26
  go_wp2_with (first | (go_at_call 53; (refine (pzGood_any _ xs true _ (HX.out.later (by go_grown)) HP.out).mono ?_); rintro e w1 ⟨rfl, hb1⟩; go_loud ((have A1 : Adds w (.slice a0 xs.length cap) k a b w1 := Adds.later (w' := ((w.alloc (.cells #[.slice a0 xs.length cap] 31)).alloc (.cells #[.int .i64 k, .int .i64 a, .int .i64 b] 44)).alloc (.cells #[.slice none 0 0] 31)) ⟨by go_grown, by go_simp, by go_simp, by go_simp, by go_simp, ⟨.slice none 0 0, by go_simp⟩, by go_simp, by simp⟩ (hb1.mono (by simp))); (have c0 := A1.c0); (have cx := A1.cx); (have cy := A1.cy); (have cz := A1.cz); (obtain ⟨vr1, c2⟩ := A1.res); (have f2 := A1.fr))) | (go_at_call 65; (refine (pzClue_any k a b false _ HC.out).mono ?_); rintro e w2 ⟨rfl, hb2⟩; (have A2 := A1.later (hb2.mono A1.top)); clear c0 cx cy cz c2 f2; (have c0 := A2.c0); (have cx := A2.cx); (have cy := A2.cy); (have cz := A2.cz); (obtain ⟨vr2, c2⟩ := A2.res); (have f2 := A2.fr)))
  refine bodyPost_ret (v := .tuple #[.agg #[.slice none 0 0], .bool false]) (by simp [results, Tryd.results26, go_sem, c2]) rfl ⟨_, rfl, ?_, ?_⟩
  · exact ⟨World.ownsRow_nil _ _ _ _, fun k hk => by simp [Value.ownBlock] at hk⟩
  · exact A2.bel.setC _ _ (by show _ ≤ w.heap.size + 2; omega)

set_option maxHeartbeats 1000000 in
theorem iAddClue_no3 (u : Value) (xs : List Tri) (w : World) (hx : SrcT w u xs) (k a b : Int) (hW : ClueW w) (hP : puzzleP xs) (hC : clueP (k, a, b)) (hl : xs.length = 6) : Calls Tryd.prog 28 #[.agg #[u], .agg #[.int .i64 k, .int .i64 a, .int .i64 b]] w (GivesZ w [] false) := by
  have HX := Lib.hid hx
  have HW := Lib.hid hW
  have HP := Lib.hid (show decide (puzzleP xs) = true from decide_eq_true hP)
  have HC := Lib.hid (show decide (clueP (k, a, b)) = true from decide_eq_true hC)
  clear hC
  have h6 : (((xs.length : Nat) : Int) == 6) = true := by rw [hl]; rfl
  have h6' : (xs.length : Int) = 6 := by rw [hl]; rfl
  clear hl
  obtain ⟨a0, cap, g, off, rfl, ha, hcap, hcm, _⟩ := hx.form
  unfold maxLen at hcm
  clear hx hW hP ha
  go_enter Tryd.func28, Tryd.ntmps28
  go_wp2_with (first | (go_at_call 62; (refine (iIsPuzzle_any _ xs true _ (HX.out.later (by go_grown)) HP.out (HW.out.later (by go_grown))).mono ?_); rintro e w1 ⟨rfl, hb1⟩; go_loud ((have A1 : Adds w (.slice a0 xs.length cap) k a b w1 := Adds.later (w' := ((w.alloc (.cells #[.slice a0 xs.length cap] 31)).alloc (.cells #[.int .i64 k, .int .i64 a, .int .i64 b] 44)).alloc (.cells #[.slice none 0 0] 31)) ⟨by go_grown, by go_simp, by go_simp, by go_simp, by go_simp, ⟨.slice none 0 0, by go_simp⟩, by go_simp, by simp⟩ (hb1.mono (by simp))); (have c0 := A1.c0); (have cx := A1.cx); (have cy := A1.cy); (have cz := A1.cz); (obtain ⟨vr1, c2⟩ := A1.res); (have f2 := A1.fr))) | (go_at_call 66; (refine (iIsClue_any k a b true _ HC.out (HW.out.later A1.bel)).mono ?_); rintro e w2 ⟨rfl, hb2⟩; (have A2 := A1.later (hb2.mono A1.top)); clear c0 cx cy cz c2 f2; (have c0 := A2.c0); (have cx := A2.cx); (have cy := A2.cy); (have cz := A2.cz); (obtain ⟨vr2, c2⟩ := A2.res); (have f2 := A2.fr)))
  refine bodyPost_ret (v := .tuple #[.agg #[.slice none 0 0], .bool false]) (by simp [results, Tryd.results28, go_sem, c2]) rfl ⟨_, rfl, ?_, ?_⟩
  · exact ⟨World.ownsRow_nil _ _ _ _, fun k hk => by simp [Value.ownBlock] at hk⟩
  · exact A2.bel.setC _ _ (by show _ ≤ w.heap.size + 2; omega)

set_option maxHeartbeats 1000000 in
theorem sAddClue_no3 (u : Value) (xs : List Tri) (w : World) (hx : SrcT w u xs) (k a b : Int) (hW : ClueW w) (hP : puzzleP xs) (hC : clueP (k, a, b)) (hl : xs.length = 6) : Calls Tryd.prog 26 #[.agg #[u], .agg #[.int .i64 k, .int .i64 a, .int .i64 b]] w (GivesZ w [] false) := by
  have HX := Lib.hid hx
  have HW := Lib.hid hW
  have HP := Lib.hid (show decide (puzzleP xs) = true from decide_eq_true hP)
  have HC := Lib.hid (show decide (clueP (k, a, b)) = true from decide_eq_true hC)
  clear hC
  have h6 : (((xs.length : Nat) : Int) == 6) = true := by rw [hl]; rfl
  have h6' : (xs.length : Int) = 6 := by rw [hl]; rfl
  clear hl
  obtain ⟨a0, cap, g, off, rfl, ha, hcap, hcm, _⟩ := hx.form
  unfold maxLen at hcm
  clear hx hW hP ha
  go_enter Tryd.func26, Tryd.ntmps26
  go_wp2_with (first | (go_at_call 53; (refine (pzGood_any _ xs true _ (HX.out.later (by go_grown)) HP.out).mono ?_); rintro e w1 ⟨rfl, hb1⟩; go_loud ((have A1 : Adds w (.slice a0 xs.length cap) k a b w1 := Adds.later (w' := ((w.alloc (.cells #[.slice a0 xs.length cap] 31)).alloc (.cells #[.int .i64 k, .int .i64 a, .int .i64 b] 44)).alloc (.cells #[.slice none 0 0] 31)) ⟨by go_grown, by go_simp, by go_simp, by go_simp, by go_simp, ⟨.slice none 0 0, by go_simp⟩, by go_simp, by simp⟩ (hb1.mono (by simp))); (have c0 := A1.c0); (have cx := A1.cx); (have cy := A1.cy); (have cz := A1.cz); (obtain ⟨vr1, c2⟩ := A1.res); (have f2 := A1.fr))) | (go_at_call 65; (refine (pzClue_any k a b true _ HC.out).mono ?_); rintro e w2 ⟨rfl, hb2⟩; (have A2 := A1.later (hb2.mono A1.top)); clear c0 cx cy cz c2 f2; (have c0 := A2.c0); (have cx := A2.cx); (have cy := A2.cy); (have cz := A2.cz); (obtain ⟨vr2, c2⟩ := A2.res); (have f2 := A2.fr)))
  refine bodyPost_ret (v := .tuple #[.agg #[.slice none 0 0], .bool false]) (by simp [results, Tryd.results26, go_sem, c2]) rfl ⟨_, rfl, ?_, ?_⟩
  · exact ⟨World.ownsRow_nil _ _ _ _, fun k hk => by simp [Value.ownBlock] at hk⟩
  · exact A2.bel.setC _ _ (by show _ ≤ w.heap.size + 2; omega)

set_option maxHeartbeats 1000000 in
theorem iAddClue_yes (u : Value) (xs : List Tri) (w : World) (hx : SrcT w u xs) (k a b : Int) (hW : ClueW w) (hP : puzzleP xs) (hC : clueP (k, a, b)) (hl : xs.length ≠ 6) : Calls Tryd.prog 28 #[.agg #[u], .agg #[.int .i64 k, .int .i64 a, .int .i64 b]] w (GivesZ w (xs ++ [(k, a, b)]) true) := by
  have HX := Lib.hid hx
  have HW := Lib.hid hW
  have HP := Lib.hid (show decide (puzzleP xs) = true from decide_eq_true hP)
  have HC := Lib.hid (show decide (clueP (k, a, b)) = true from decide_eq_true hC)
  have hl6 := hP.1
  have h6 : (((xs.length : Nat) : Int) == 6) = false := by rw [beq_eq_false_iff_ne]; omega
  have h6' : ¬ (xs.length : Int) = 6 := by omega
  have n0 : 0 ≤ (xs.length : Int) := by omega
  obtain ⟨a0, cap, g, off, rfl, ha, hcap, hcm, _⟩ := hx.form
  unfold maxLen at hcm
  have n1 : (xs.length : Int) ≤ (cap : Int) := by omega
  clear hx hW hP ha hC
  go_enter Tryd.func28, Tryd.ntmps28
  go_wp2_with (first | (go_at_call 62; (refine (iIsPuzzle_any _ xs true _ (HX.out.later (by go_grown)) HP.out (HW.out.later (by go_grown))).mono ?_); rintro e w1 ⟨rfl, hb1⟩; go_loud ((have A1 : Adds w (.slice a0 xs.length cap) k a b w1 := Adds.later (w' := ((w.alloc (.cells #[.slice a0 xs.length cap] 31)).alloc (.cells #[.int .i64 k, .int .i64 a, .int .i64 b] 44)).alloc (.cells #[.slice none 0 0] 31)) ⟨by go_grown, by go_simp, by go_simp, by go_simp, by go_simp, ⟨.slice none 0 0, by go_simp⟩, by go_simp, by simp⟩ (hb1.mono (by simp))); (have c0 := A1.c0); (have cx := A1.cx); (have cy := A1.cy); (have cz := A1.cz); (obtain ⟨vr1, c2⟩ := A1.res); (have f2 := A1.fr))) | (go_at_call 66; (refine (iIsClue_any k a b true _ HC.out (HW.out.later A1.bel)).mono ?_); rintro e w2 ⟨rfl, hb2⟩; (have A2 := A1.later (hb2.mono A1.top)); clear c0 cx cy cz c2 f2; (have c0 := A2.c0); (have cx := A2.cx); (have cy := A2.cy); (have cz := A2.cz); (obtain ⟨vr2, c2⟩ := A2.res); (have f2 := A2.fr)))

  refine wp_region_held_drew (S := fun w' => Adds w (.slice a0 xs.length cap) k a b w') (by kernel_rfl) (by (try dsimp only); exact A2.later (by go_grown)) (fun hHeld => ?_)
  refine wpAnyH_take (i := 0) (v := ?v18) rfl (by kernel_rfl) (by kernel_rfl) (by kernel_rfl) (fun _ _ _ h => h) (Or.inl ⟨by rfl, ?hy18⟩) (by assumption) ?rest18
  case hy18 => (intro w hSw; (try dsimp only at hSw); go_simp; (try with_reducible rfl))
  simp only [Act.put, List.getElem_toArray, List.getElem_cons_zero, List.setIfInBounds_toArray, List.set_cons_zero, List.set_cons_succ]
  refine wpAnyH_take (i := 1) (v := ?v19) rfl (by kernel_rfl) (by kernel_rfl) (by kernel_rfl) (fun _ _ _ h => h) (Or.inl ⟨by rfl, ?hy19⟩) (by assumption) ?rest19
  case hy19 => (intro w hSw; (try dsimp only at hSw); have c0 := hSw.c0; have cx := hSw.cx; have cy := hSw.cy; have cz := hSw.cz; go_simp; (try with_reducible rfl))
  simp only [Act.put, List.getElem_toArray, List.getElem_cons_zero, List.getElem_cons_succ, List.setIfInBounds_toArray, List.set_cons_zero, List.set_cons_succ]
  refine wpAnyH_take (i := 2) (v := ?v20) rfl (by kernel_rfl) (by kernel_rfl) (by kernel_rfl) (fun _ _ _ h => h) (Or.inl ⟨by rfl, ?hy20⟩) (by assumption) ?rest20
  case hy20 => (intro w hSw; (try dsimp only at hSw); go_simp; (try with_reducible rfl))
  simp only [Act.put, List.getElem_toArray, List.getElem_cons_zero, List.getElem_cons_succ, List.setIfInBounds_toArray, List.set_cons_zero, List.set_cons_succ]
  refine wpAnyH_take (i := 3) (v := ?v21) rfl (by kernel_rfl) (by kernel_rfl) (by kernel_rfl) (fun _ _ _ h => h) (Or.inl ⟨by rfl, ?hy21⟩) (by assumption) ?rest21
  case hy21 => (intro w hSw; (try dsimp only at hSw); go_simp; (try with_reducible rfl))
  simp only [Act.put, List.getElem_toArray, List.getElem_cons_zero, List.getElem_cons_succ, List.setIfInBounds_toArray, List.set_cons_zero, List.set_cons_succ]
  refine wpAnyH_take (i := 4) (v := ?v22) rfl (by kernel_rfl) (by kernel_rfl) (by kernel_rfl) (fun _ _ _ h => h) (Or.inl ⟨by rfl, ?hy22⟩) (by assumption) ?rest22
  case hy22 => (intro w hSw; (try dsimp only at hSw); go_simp; (try with_reducible rfl))
  simp only [Act.put, List.getElem_toArray, List.getElem_cons_zero, List.getElem_cons_succ, List.setIfInBounds_toArray, List.set_cons_zero, List.set_cons_succ]
  refine wpAnyH_take (i := 5) (v := ?v23) rfl (by kernel_rfl) (by kernel_rfl) (by kernel_rfl) (fun _ _ _ h => h) (Or.inl ⟨by rfl, ?hy23⟩) (by assumption) ?rest23
  case hy23 => (intro w hSw; (try dsimp only at hSw); have c0 := hSw.c0; have cx := hSw.cx; have cy := hSw.cy; have cz := hSw.cz; go_simp; (try with_reducible rfl))
  simp only [Act.put, List.getElem_toArray, List.getElem_cons_zero, List.getElem_cons_succ, List.setIfInBounds_toArray, List.set_cons_zero, List.set_cons_succ]
  refine wpAnyH_ready (rs := [6]) (by kernel_rfl) (by simp) ?_
  refine AllReadyH.cons rfl (fun K hK => ?_) AllReadyH.nil
  simp only [List.getElem_toArray, List.getElem_cons_zero, List.getElem_cons_succ]
  go_simp
  refine hK.out _ _ (by (try dsimp only); exact hHeld.later ((Below.refl _ _).alloc hHeld.top _)) (fun hHeld => ?_)
  clear hK K
  have hT2 : SrcT (w2.alloc (.cells ((flatT [(k, a, b)]).map (Value.int .i64)).toArray 44)).drew (.slice (some ⟨w2.heap.size, 0, none⟩) 1 1) [(k, a, b)] := (Trips.boxed w2 (w.heap.size + 3) 44 [(k, a, b)] A2.top (by simp)).src
  have hX2 := srcT_full (HX.out.later hHeld.bel)
  refine wpAnyH_ready (rs := [7]) (by kernel_rfl) (by simp) ?_
  refine AllReadyH.cons rfl (fun K hK => ?_) AllReadyH.nil
  simp only [List.getElem_toArray, List.getElem_cons_zero, List.getElem_cons_succ]
  rw [if_pos (by rfl)]; refine wp_append_full (.tmp 27) (.tmp 29) 29 rfl 44 Tryd.underlying29 info_clue a0 xs.length _ xs [(k, a, b)] rfl rfl hX2 hT2 (by simp) (by simp; omega) ?_; intro v3 w3 hI3 hg3
  refine hK.out _ _ (by (try dsimp only); exact hHeld.later ((Below.refl _ _).grown hg3 hHeld.top (fun _ h => by cases h))) (fun hHeld => ?_)
  clear hK K
  simp only [Act.put, List.setIfInBounds_toArray, List.set_cons_zero, List.set_cons_succ]
  have hS3 := hHeld; obtain ⟨va, vn, vc, hf3⟩ := own_formT hI3; subst hf3; obtain ⟨vr3, c23⟩ := hS3.res; have f23 := hS3.fr
  refine wpAnyH_take (i := 8) (v := ?v24) rfl (by kernel_rfl) (by kernel_rfl) (by kernel_rfl) (fun _ _ _ h => h) (Or.inl ⟨by rfl, ?hy24⟩) (by assumption) ?rest24
  case hy24 => (intro w hSw; (try dsimp only at hSw); go_simp; (try with_reducible rfl))
  simp only [Act.put, List.getElem_toArray, List.getElem_cons_zero, List.getElem_cons_succ, List.setIfInBounds_toArray, List.set_cons_zero, List.set_cons_succ]
  refine wpAnyH_ready (rs := [9]) (by kernel_rfl) (by simp) ?_
  refine AllReadyH.cons rfl (fun K hK => ?_) AllReadyH.nil
  simp only [List.getElem_toArray, List.getElem_cons_zero, List.getElem_cons_succ]
  go_simp
  refine hK.out _ _ (by (try dsimp only); exact hHeld.set (.slice va vn vc)) (fun hHeld => ?_)
  clear hK K
  refine wpAnyH_take (i := 10) (v := ?v25) rfl (by kernel_rfl) (by kernel_rfl) (by kernel_rfl) (fun _ _ _ h => h) (Or.inl ⟨by rfl, ?hy25⟩) (by assumption) ?rest25
  case hy25 => (intro w hSw; (try dsimp only at hSw); go_simp; (try with_reducible rfl))
  simp only [Act.put, List.getElem_toArray, List.getElem_cons_zero, List.getElem_cons_succ, List.setIfInBounds_toArray, List.set_cons_zero, List.set_cons_succ]
  refine wpAnyH_done (by kernel_rfl) ?_ _
  go_wp2
  all_goals
    refine bodyPost_ret (v := .tuple #[.agg #[.slice va vn vc], .bool true]) (by simp [results, Tryd.results28, go_sem, c23]) rfl ⟨_, rfl, ?_, ?_⟩
    · exact ((hI3.inn.wider (B' := w.heap.size + 3) (by have := A2.top; simp; omega) (Nat.le_refl _)).setC _ _ (by show w.heap.size + 2 < _; omega)).wider (by omega) (by simp)
    · exact hHeld.bel

set_option maxHeartbeats 2000000 in
theorem sAddClue_yes (u : Value) (xs : List Tri) (w : World) (hx : SrcT w u xs) (k a b : Int) (hW : ClueW w) (hP : puzzleP xs) (hC : clueP (k, a, b)) (hl : xs.length ≠ 6) : Calls Tryd.prog 26 #[.agg #[u], .agg #[.int .i64 k, .int .i64 a, .int .i64 b]] w (GivesZ w (xs ++ [(k, a, b)]) true) := by
  have HX := Lib.hid hx
  have HW := Lib.hid hW
  have HP := Lib.hid (show decide (puzzleP xs) = true from decide_eq_true hP)
  have HC := Lib.hid (show decide (clueP (k, a, b)) = true from decide_eq_true hC)
  have hl6 := hP.1
  have h6 : (((xs.length : Nat) : Int) == 6) = false := by rw [beq_eq_false_iff_ne]; omega
  have h6' : ¬ (xs.length : Int) = 6 := by omega
  have n0 : 0 ≤ (xs.length : Int) := by omega
  obtain ⟨a0, cap, g, off, rfl, ha, hcap, hcm, _⟩ := hx.form
  unfold maxLen at hcm
  have n1 : (xs.length : Int) ≤ (cap : Int) := by omega
  clear hx hW hP ha hC
  go_enter Tryd.func26, Tryd.ntmps26
  go_wp2_with (first | (go_at_call 53; (refine (pzGood_any _ xs true _ (HX.out.later (by go_grown)) HP.out).mono ?_); rintro e w1 ⟨rfl, hb1⟩; go_loud ((have A1 : Adds w (.slice a0 xs.length cap) k a b w1 := Adds.later (w' := ((w.alloc (.cells #[.slice a0 xs.length cap] 31)).alloc (.cells #[.int .i64 k, .int .i64 a, .int .i64 b] 44)).alloc (.cells #[.slice none 0 0] 31)) ⟨by go_grown, by go_simp, by go_simp, by go_simp, by go_simp, ⟨.slice none 0 0, by go_simp⟩, by go_simp, by simp⟩ (hb1.mono (by simp))); (have c0 := A1.c0); (have cx := A1.cx); (have cy := A1.cy); (have cz := A1.cz); (obtain ⟨vr1, c2⟩ := A1.res); (have f2 := A1.fr))) | (go_at_call 65; (refine (pzClue_any k a b true _ HC.out).mono ?_); rintro e w2 ⟨rfl, hb2⟩; (have A2 := A1.later (hb2.mono A1.top)); clear c0 cx cy cz c2 f2; (have c0 := A2.c0); (have cx := A2.cx); (have cy := A2.cy); (have cz := A2.cz); (obtain ⟨vr2, c2⟩ := A2.res); (have f2 := A2.fr)))

  refine wp_region_held_drew (S := fun w' => Adds w (.slice a0 xs.length cap) k a b w') (by kernel_rfl) (by (try dsimp only); exact A2.later (by go_grown)) (fun hHeld => ?_)
  refine wpAnyH_take (i := 1) (v := ?v26) rfl (by kernel_rfl) (by kernel_rfl) (by kernel_rfl) (fun _ _ _ h => h) (Or.inl ⟨by rfl, ?hy26⟩) (by assumption) ?rest26
  case hy26 => (intro w hSw; (try dsimp only at hSw); go_simp; (try with_reducible rfl))
  simp only [Act.put, List.getElem_toArray, List.getElem_cons_zero, List.getElem_cons_succ, List.setIfInBounds_toArray, List.set_cons_zero, List.set_cons_succ]
  refine wpAnyH_take (i := 2) (v := ?v27) rfl (by kernel_rfl) (by kernel_rfl) (by kernel_rfl) (fun _ _ _ h => h) (Or.inl ⟨by rfl, ?hy27⟩) (by assumption) ?rest27
  case hy27 => (intro w hSw; (try dsimp only at hSw); have c0 := hSw.c0; have cx := hSw.cx; have cy := hSw.cy; have cz := hSw.cz; go_simp; (try with_reducible rfl))
  simp only [Act.put, List.getElem_toArray, List.getElem_cons_zero, List.getElem_cons_succ, List.setIfInBounds_toArray, List.set_cons_zero, List.set_cons_succ]
  refine wpAnyH_take (i := 4) (v := ?v28) rfl (by kernel_rfl) (by kernel_rfl) (by kernel_rfl) (fun _ _ _ h => h) (Or.inl ⟨by rfl, ?hy28⟩) (by assumption) ?rest28
  case hy28 => (intro w hSw; (try dsimp only at hSw); have c0 := hSw.c0; have cx := hSw.cx; have cy := hSw.cy; have cz := hSw.cz; go_simp; (try with_reducible rfl))
  simp only [Act.put, List.getElem_toArray, List.getElem_cons_zero, List.getElem_cons_succ, List.setIfInBounds_toArray, List.set_cons_zero, List.set_cons_succ]
  refine wpAnyH_ready (rs := [0, 5]) (by kernel_rfl) (by simp) ?_
  refine AllReadyH.cons rfl (fun K hK => ?_) (AllReadyH.cons rfl (fun K hK => ?_) AllReadyH.nil)
  · skip
    simp only [List.getElem_toArray, List.getElem_cons_zero]
    go_simp
    refine hK.out _ _ (by (try dsimp only); exact hHeld.later ((Below.refl _ _).alloc hHeld.top _)) (fun hHeld => ?_)
    clear hK K
    have hI0 : Trips (w2.alloc (.cells #[] 44)).drew (w.heap.size + 3) 44 (.slice (some ⟨w2.heap.size, 0, none⟩) 0 0) [] := Trips.boxedAt w2 (w.heap.size + 3) 44 [] (w2.heap.size) (by simp) (by have := A2.top; omega) (by simp)
    refine wpAnyH_ready (rs := [3, 5]) (by kernel_rfl) (by simp) ?_
    refine AllReadyH.cons rfl (fun K hK => ?_) (AllReadyH.cons rfl (fun K hK => ?_) AllReadyH.nil)
    · skip
      have hX0 := HX.out.later hHeld.bel
      simp only [List.getElem_toArray, List.getElem_cons_zero, List.getElem_cons_succ]
      rw [if_pos (by rfl)]; refine wp_append_trips (.tmp 21) (.tmp 23) 29 rfl (w.heap.size + 3) 44 Tryd.underlying29 info_clue _ _ [] xs rfl rfl hI0 hX0 (by simp; omega) hHeld.top ?_; intro v3 w3 hI3 hg3 _
      refine hK.out _ _ (by (try dsimp only); exact hHeld.later (Trips.below hI0 (Below.refl _ _) hHeld.top hg3)) (fun hHeld => ?_)
      clear hK K
      simp only [Act.put, List.setIfInBounds_toArray, List.set_cons_zero, List.set_cons_succ]
      have hS9 := hHeld
      refine wpAnyH_ready (rs := [5]) (by kernel_rfl) (by simp) ?_
      refine AllReadyH.cons rfl (fun K hK => ?_) AllReadyH.nil
      simp only [List.getElem_toArray, List.getElem_cons_zero, List.getElem_cons_succ]
      go_simp
      refine hK.out _ _ (by (try dsimp only); exact hHeld.later ((Below.refl _ _).alloc hHeld.top _)) (fun hHeld => ?_)
      clear hK K
      have hT5 : SrcT (w3.alloc (.cells #[.int .i64 k, .int .i64 a, .int .i64 b] 44)) (.slice (some ⟨w3.heap.size, 0, none⟩) 1 1) [(k, a, b)] := (Trips.boxed w3 (w.heap.size + 3) 44 [(k, a, b)] hS9.top (by simp)).src; have hJ3 : Trips (w3.alloc (.cells #[.int .i64 k, .int .i64 a, .int .i64 b] 44)) (w.heap.size + 3) 44 v3 ([] ++ xs) := Trips.later (w' := w3.alloc (.cells #[.int .i64 k, .int .i64 a, .int .i64 b] 44)) hI3 ((Below.refl _ _).alloc (Nat.le_refl _) (.cells #[.int .i64 k, .int .i64 a, .int .i64 b] 44))
      refine wpAnyH_ready (rs := [6]) (by kernel_rfl) (by simp) ?_
      refine AllReadyH.cons rfl (fun K hK => ?_) AllReadyH.nil
      simp only [List.getElem_toArray, List.getElem_cons_zero, List.getElem_cons_succ]
      rw [if_pos (by rfl)]; refine wp_append_trips (.tmp 24) (.tmp 26) 29 rfl (w.heap.size + 3) 44 Tryd.underlying29 info_clue _ _ ([] ++ xs) [(k, a, b)] rfl rfl hJ3 hT5 (by simp; omega) hHeld.top ?_; intro v4 w4 hI4 hg4 _
      refine hK.out _ _ (by (try dsimp only); exact hHeld.later (Trips.below hJ3 (Below.refl _ _) hHeld.top hg4)) (fun hHeld => ?_)
      clear hK K
      simp only [Act.put, List.setIfInBounds_toArray, List.set_cons_zero, List.set_cons_succ]
      have hS3 := hHeld; obtain ⟨va, vn, vc, hf3⟩ := own_formT hI4; subst hf3; obtain ⟨vr3, c23⟩ := hS3.res; have f23 := hS3.fr
      refine wpAnyH_take (i := 7) (v := ?v29) rfl (by kernel_rfl) (by kernel_rfl) (by kernel_rfl) (fun _ _ _ h => h) (Or.inl ⟨by rfl, ?hy29⟩) (by assumption) ?rest29
      case hy29 => (intro w hSw; (try dsimp only at hSw); go_simp; (try with_reducible rfl))
      simp only [Act.put, List.getElem_toArray, List.getElem_cons_zero, List.getElem_cons_succ, List.setIfInBounds_toArray, List.set_cons_zero, List.set_cons_succ]
      refine wpAnyH_ready (rs := [8]) (by kernel_rfl) (by simp) ?_
      refine AllReadyH.cons rfl (fun K hK => ?_) AllReadyH.nil
      simp only [List.getElem_toArray, List.getElem_cons_zero, List.getElem_cons_succ]
      go_simp
      refine hK.out _ _ (by (try dsimp only); exact hHeld.set (.slice va vn vc)) (fun hHeld => ?_)
      clear hK K
      refine wpAnyH_take (i := 9) (v := ?v30) rfl (by kernel_rfl) (by kernel_rfl) (by kernel_rfl) (fun _ _ _ h => h) (Or.inl ⟨by rfl, ?hy30⟩) (by assumption) ?rest30
      case hy30 => (intro w hSw; (try dsimp only at hSw); go_simp; (try with_reducible rfl))
      simp only [Act.put, List.getElem_toArray, List.getElem_cons_zero, List.getElem_cons_succ, List.setIfInBounds_toArray, List.set_cons_zero, List.set_cons_succ]
      refine wpAnyH_done (by kernel_rfl) ?_ _
      go_wp2
      refine bodyPost_ret (v := .tuple #[.agg #[.slice va vn vc], .bool true]) (by simp [results, Tryd.results26, go_sem, c23]) rfl ⟨_, rfl, ?_, ?_⟩
      · have h9 := hI4.inn
        rw [List.nil_append] at h9
        exact ((h9.wider (B' := w.heap.size + 3) (by omega) (Nat.le_refl _)).setC _ _ (by show w.heap.size + 2 < _; omega)).wider (by omega) (by simp)
      · exact hHeld.bel
    · skip
      simp only [List.getElem_toArray, List.getElem_cons_zero, List.getElem_cons_succ]
      go_simp
      refine hK.out _ _ (by (try dsimp only); exact hHeld.later ((Below.refl _ _).alloc hHeld.top _)) (fun hHeld => ?_)
      clear hK K
      have hJ0 : Trips ((w2.alloc (.cells #[] 44)).alloc (.cells #[.int .i64 k, .int .i64 a, .int .i64 b] 44)).drew (w.heap.size + 3) 44 (.slice (some ⟨w2.heap.size, 0, none⟩) 0 0) [] := Trips.later (w' := ((w2.alloc (.cells #[] 44)).alloc (.cells #[.int .i64 k, .int .i64 a, .int .i64 b] 44)).drew) hI0 ((Below.refl _ _).alloc (Nat.le_refl _) (.cells #[.int .i64 k, .int .i64 a, .int .i64 b] 44))
      have hT5 : SrcT ((w2.alloc (.cells #[] 44)).alloc (.cells #[.int .i64 k, .int .i64 a, .int .i64 b] 44)).drew (.slice (some ⟨w2.heap.size + 1, 0, none⟩) 1 1) [(k, a, b)] := (Trips.boxedAt (w2.alloc (.cells #[] 44)) (w.heap.size + 3) 44 [(k, a, b)] (w2.heap.size + 1) (by simp) (by have := A2.top; omega) (by simp)).src
      have hX0 := HX.out.later hHeld.bel
      refine wpAnyH_ready (rs := [3]) (by kernel_rfl) (by simp) ?_
      refine AllReadyH.cons rfl (fun K hK => ?_) AllReadyH.nil
      simp only [List.getElem_toArray, List.getElem_cons_zero, List.getElem_cons_succ]
      rw [if_pos (by rfl)]; refine wp_append_trips (.tmp 21) (.tmp 23) 29 rfl (w.heap.size + 3) 44 Tryd.underlying29 info_clue _ _ [] xs rfl rfl hJ0 hX0 (by simp; omega) hHeld.top ?_; intro v3 w3 hI3 hg3 _
      refine hK.out _ _ (by (try dsimp only); exact hHeld.later (Trips.below hJ0 (Below.refl _ _) hHeld.top hg3)) (fun hHeld => ?_)
      clear hK K
      simp only [Act.put, List.setIfInBounds_toArray, List.set_cons_zero, List.set_cons_succ]
      have hT6 := hT5.grown hg3 (by show some _ ≠ some _; simp)
      refine wpAnyH_ready (rs := [6]) (by kernel_rfl) (by simp) ?_
      refine AllReadyH.cons rfl (fun K hK => ?_) AllReadyH.nil
      simp only [List.getElem_toArray, List.getElem_cons_zero, List.getElem_cons_succ]
      rw [if_pos (by rfl)]; refine wp_append_trips (.tmp 24) (.tmp 26) 29 rfl (w.heap.size + 3) 44 Tryd.underlying29 info_clue _ _ ([] ++ xs) [(k, a, b)] rfl rfl hI3 hT6 (by simp; omega) hHeld.top ?_; intro v4 w4 hI4 hg4 _
      refine hK.out _ _ (by (try dsimp only); exact hHeld.later (Trips.below hI3 (Below.refl _ _) hHeld.top hg4)) (fun hHeld => ?_)
      clear hK K
      simp only [Act.put, List.setIfInBounds_toArray, List.set_cons_zero, List.set_cons_succ]
      have hS3 := hHeld; obtain ⟨va, vn, vc, hf3⟩ := own_formT hI4; subst hf3; obtain ⟨vr3, c23⟩ := hS3.res; have f23 := hS3.fr
      refine wpAnyH_take (i := 7) (v := ?v31) rfl (by kernel_rfl) (by kernel_rfl) (by kernel_rfl) (fun _ _ _ h => h) (Or.inl ⟨by rfl, ?hy31⟩) (by assumption) ?rest31
      case hy31 => (intro w hSw; (try dsimp only at hSw); go_simp; (try with_reducible rfl))
      simp only [Act.put, List.getElem_toArray, List.getElem_cons_zero, List.getElem_cons_succ, List.setIfInBounds_toArray, List.set_cons_zero, List.set_cons_succ]
      refine wpAnyH_ready (rs := [8]) (by kernel_rfl) (by simp) ?_
      refine AllReadyH.cons rfl (fun K hK => ?_) AllReadyH.nil
      simp only [List.getElem_toArray, List.getElem_cons_zero, List.getElem_cons_succ]
      go_simp
      refine hK.out _ _ (by (try dsimp only); exact hHeld.set (.slice va vn vc)) (fun hHeld => ?_)
      clear hK K
      refine wpAnyH_take (i := 9) (v := ?v32) rfl (by kernel_rfl) (by kernel_rfl) (by kernel_rfl) (fun _ _ _ h => h) (Or.inl ⟨by rfl, ?hy32⟩) (by assumption) ?rest32
      case hy32 => (intro w hSw; (try dsimp only at hSw); go_simp; (try with_reducible rfl))
      simp only [Act.put, List.getElem_toArray, List.getElem_cons_zero, List.getElem_cons_succ, List.setIfInBounds_toArray, List.set_cons_zero, List.set_cons_succ]
      refine wpAnyH_done (by kernel_rfl) ?_ _
      go_wp2
      refine bodyPost_ret (v := .tuple #[.agg #[.slice va vn vc], .bool true]) (by simp [results, Tryd.results26, go_sem, c23]) rfl ⟨_, rfl, ?_, ?_⟩
      · have h9 := hI4.inn
        rw [List.nil_append] at h9
        exact ((h9.wider (B' := w.heap.size + 3) (by omega) (Nat.le_refl _)).setC _ _ (by show w.heap.size + 2 < _; omega)).wider (by omega) (by simp)
      · exact hHeld.bel
  · skip
    simp only [List.getElem_toArray, List.getElem_cons_zero, List.getElem_cons_succ]
    go_simp
    refine hK.out _ _ (by (try dsimp only); exact hHeld.later ((Below.refl _ _).alloc hHeld.top _)) (fun hHeld => ?_)
    clear hK K
    have hT5 : SrcT (w2.alloc (.cells #[.int .i64 k, .int .i64 a, .int .i64 b] 44)).drew (.slice (some ⟨w2.heap.size, 0, none⟩) 1 1) [(k, a, b)] := (Trips.boxedAt w2 (w.heap.size + 3) 44 [(k, a, b)] (w2.heap.size) (by simp) (by have := A2.top; omega) (by simp)).src
    refine wpAnyH_ready (rs := [0]) (by kernel_rfl) (by simp) ?_
    refine AllReadyH.cons rfl (fun K hK => ?_) AllReadyH.nil
    simp only [List.getElem_toArray, List.getElem_cons_zero]
    go_simp
    refine hK.out _ _ (by (try dsimp only); exact hHeld.later ((Below.refl _ _).alloc hHeld.top _)) (fun hHeld => ?_)
    clear hK K
    have hI0 : Trips ((w2.alloc (.cells #[.int .i64 k, .int .i64 a, .int .i64 b] 44)).alloc (.cells #[] 44)).drew (w.heap.size + 3) 44 (.slice (some ⟨w2.heap.size + 1, 0, none⟩) 0 0) [] := Trips.boxedAt (w2.alloc (.cells #[.int .i64 k, .int .i64 a, .int .i64 b] 44)) (w.heap.size + 3) 44 [] (w2.heap.size + 1) (by simp) (by have := A2.top; omega) (by simp)
    have hT5' : SrcT ((w2.alloc (.cells #[.int .i64 k, .int .i64 a, .int .i64 b] 44)).alloc (.cells #[] 44)).drew (.slice (some ⟨w2.heap.size, 0, none⟩) 1 1) [(k, a, b)] := SrcT.later (w' := ((w2.alloc (.cells #[.int .i64 k, .int .i64 a, .int .i64 b] 44)).alloc (.cells #[] 44)).drew) hT5 ((Below.refl _ _).alloc (Nat.le_refl _) (.cells #[] 44))
    have hX0 := HX.out.later hHeld.bel
    refine wpAnyH_ready (rs := [3]) (by kernel_rfl) (by simp) ?_
    refine AllReadyH.cons rfl (fun K hK => ?_) AllReadyH.nil
    simp only [List.getElem_toArray, List.getElem_cons_zero, List.getElem_cons_succ]
    rw [if_pos (by rfl)]; refine wp_append_trips (.tmp 21) (.tmp 23) 29 rfl (w.heap.size + 3) 44 Tryd.underlying29 info_clue _ _ [] xs rfl rfl hI0 hX0 (by simp; omega) hHeld.top ?_; intro v3 w3 hI3 hg3 _
    refine hK.out _ _ (by (try dsimp only); exact hHeld.later (Trips.below hI0 (Below.refl _ _) hHeld.top hg3)) (fun hHeld => ?_)
    clear hK K
    simp only [Act.put, List.setIfInBounds_toArray, List.set_cons_zero, List.set_cons_succ]
    have hT6 := hT5'.grown hg3 (by show some _ ≠ some _; simp)
    refine wpAnyH_ready (rs := [6]) (by kernel_rfl) (by simp) ?_
    refine AllReadyH.cons rfl (fun K hK => ?_) AllReadyH.nil
    simp only [List.getElem_toArray, List.getElem_cons_zero, List.getElem_cons_succ]
    rw [if_pos (by rfl)]; refine wp_append_trips (.tmp 24) (.tmp 26) 29 rfl (w.heap.size + 3) 44 Tryd.underlying29 info_clue _ _ ([] ++ xs) [(k, a, b)] rfl rfl hI3 hT6 (by simp; omega) hHeld.top ?_; intro v4 w4 hI4 hg4 _
    refine hK.out _ _ (by (try dsimp only); exact hHeld.later (Trips.below hI3 (Below.refl _ _) hHeld.top hg4)) (fun hHeld => ?_)
    clear hK K
    simp only [Act.put, List.setIfInBounds_toArray, List.set_cons_zero, List.set_cons_succ]
    have hS3 := hHeld; obtain ⟨va, vn, vc, hf3⟩ := own_formT hI4; subst hf3; obtain ⟨vr3, c23⟩ := hS3.res; have f23 := hS3.fr
    refine wpAnyH_take (i := 7) (v := ?v33) rfl (by kernel_rfl) (by kernel_rfl) (by kernel_rfl) (fun _ _ _ h => h) (Or.inl ⟨by rfl, ?hy33⟩) (by assumption) ?rest33
    case hy33 => (intro w hSw; (try dsimp only at hSw); go_simp; (try with_reducible rfl))
    simp only [Act.put, List.getElem_toArray, List.getElem_cons_zero, List.getElem_cons_succ, List.setIfInBounds_toArray, List.set_cons_zero, List.set_cons_succ]
    refine wpAnyH_ready (rs := [8]) (by kernel_rfl) (by simp) ?_
    refine AllReadyH.cons rfl (fun K hK => ?_) AllReadyH.nil
    simp only [List.getElem_toArray, List.getElem_cons_zero, List.getElem_cons_succ]
    go_simp
    refine hK.out _ _ (by (try dsimp only); exact hHeld.set (.slice va vn vc)) (fun hHeld => ?_)
    clear hK K
    refine wpAnyH_take (i := 9) (v := ?v34) rfl (by kernel_rfl) (by kernel_rfl) (by kernel_rfl) (fun _ _ _ h => h) (Or.inl ⟨by rfl, ?hy34⟩) (by assumption) ?rest34
    case hy34 => (intro w hSw; (try dsimp only at hSw); go_simp; (try with_reducible rfl))
    simp only [Act.put, List.getElem_toArray, List.getElem_cons_zero, List.getElem_cons_succ, List.setIfInBounds_toArray, List.set_cons_zero, List.set_cons_succ]
    refine wpAnyH_done (by kernel_rfl) ?_ _
    go_wp2
    refine bodyPost_ret (v := .tuple #[.agg #[.slice va vn vc], .bool true]) (by simp [results, Tryd.results26, go_sem, c23]) rfl ⟨_, rfl, ?_, ?_⟩
    · have h9 := hI4.inn
      rw [List.nil_append] at h9
      exact ((h9.wider (B' := w.heap.size + 3) (by omega) (Nat.le_refl _)).setC _ _ (by show w.heap.size + 2 < _; omega)).wider (by omega) (by simp)
    · exact hHeld.bel

set_option maxRecDepth 100000 in
set_option maxHeartbeats 2000000 in
theorem core_AddClue (v : Value) (xs : List Tri) (ck ca cb : Int) (x : List Tri) (b : Bool) (w : World) (hA : ArgT w v xs) (hW : ClueW w) (hn : xs.length ≤ 1048576) (hx : x.length ≤ 1000000)
    (hs : ∀ (W : World) (u : Value) (B T : Nat), ClueW W → TripsIn 44 W B T u xs → T ≤ W.heap.size → Calls Tryd.prog 26 #[.agg #[u], .agg #[.int .i64 ck, .int .i64 ca, .int .i64 cb]] W (GivesZ W x b))
    (hi : ∀ (W : World) (u : Value) (B T : Nat), ClueW W → TripsIn 44 W B T u xs → T ≤ W.heap.size → Calls Tryd.prog 28 #[.agg #[u], .agg #[.int .i64 ck, .int .i64 ca, .int .i64 cb]] W (GivesZ W x b)) :
    Calls Tryd.prog 5 #[.agg #[v], .agg #[.int .i64 ck, .int .i64 ca, .int .i64 cb]] w fun e w' => e = .returned (.bool true) ∧ Below w.heap.size w w' := by
  have hA1 := hA
  obtain ⟨a0, cap, a, rfl, _⟩ := hA1
  have HS := Lib.hid hs
  have HI := Lib.hid hi
  have HA := Lib.hid hA
  have HW := Lib.hid hW
  clear hs hi hA hW
  go_enter Tryd.func5, Tryd.ntmps5
  go_wp2_with fail
  refine (szPuzzle_yes _ _ _ _ hn).mono ?_
  rintro e w1 ⟨rfl, hx1⟩
  have hb1 : Below w.heap.size w w1 := Below.trans (by go_grown) (hx1.mono (by first | omega | (simp; done) | (simp; omega)))
  have n1 : w.heap.size + 2 ≤ w1.heap.size := by have := hx1.size; (try simp at this); omega
  have B1 : Below w.heap.size w w1 := hb1
  have zp1 : w1.cell? ⟨w.heap.size, 0, none⟩ = some (.slice a0 xs.length cap) := cellB hx1 (by go_simp)
  have zkx1 : w1.cell? ⟨w.heap.size + 1, 0, none⟩ = some (.int .i64 ck) := cellB hx1 (by go_simp)
  have zky1 : w1.cell? ⟨w.heap.size + 1, 1, none⟩ = some (.int .i64 ca) := cellB hx1 (by go_simp)
  have zkz1 : w1.cell? ⟨w.heap.size + 1, 2, none⟩ = some (.int .i64 cb) := cellB hx1 (by go_simp)
  go_upto_region 5 with fail
  go_cut [6, 7] from 16 (fun s0 s1 wx => ∃ (nb : Nat) (va : Option Addr) (ma ca B T : Nat), s0 = .pointer (some ⟨nb, 0, none⟩) ∧ s1 = .bool b ∧ w1.heap.size ≤ nb ∧ nb < (wx).heap.size ∧ w1.heap.size ≤ B ∧ T ≤ (wx).heap.size ∧ (nb < B ∨ T ≤ nb) ∧ (wx).cell? ⟨nb, 0, none⟩ = some (.slice va ma ca) ∧ TripsIn 44 (wx) B T (.slice va ma ca) x ∧ Below w1.heap.size w1 (wx))
  case first =>
    refine wp_region_held_drew (S := fun w' => Below w1.heap.size w1 w') (by kernel_rfl) (by (try dsimp only); first | exact Below.refl _ _ | go_grown) (fun hHeld => ?_)
    refine wpAnyH_take (i := 0) (v := ?v35) rfl (by kernel_rfl) (by kernel_rfl) (by kernel_rfl) (fun _ _ _ h => h) (Or.inl ⟨by rfl, ?hy35⟩) (by assumption) ?rest35
    case hy35 => (intro w hSw; (try dsimp only at hSw); have zq0 := cellB hSw zp1; go_simp; (try with_reducible rfl))
    simp only [Act.put, List.getElem_toArray, List.getElem_cons_zero, List.setIfInBounds_toArray, List.set_cons_zero, List.set_cons_succ]
    refine wpAnyH_take (i := 2) (v := ?v36) rfl (by kernel_rfl) (by kernel_rfl) (by kernel_rfl) (fun _ _ _ h => h) (Or.inl ⟨by rfl, ?hy36⟩) (by assumption) ?rest36
    case hy36 => (intro w hSw; (try dsimp only at hSw); have zq0 := cellB hSw zkx1; have zq1 := cellB hSw zky1; have zq2 := cellB hSw zkz1; go_simp; (try with_reducible rfl))
    simp only [Act.put, List.getElem_toArray, List.getElem_cons_zero, List.getElem_cons_succ, List.setIfInBounds_toArray, List.set_cons_zero, List.set_cons_succ]
    refine wpAnyH_ready (rs := [1, 8]) (by kernel_rfl) (by simp) ?_
    refine AllReadyH.cons rfl (fun K hK => ?_) (AllReadyH.cons rfl (fun K hK => ?_) AllReadyH.nil)
    · skip
      simp only [List.getElem_toArray, List.getElem_cons_zero, List.getElem_cons_succ]
      go_simp
      go_at_call 16; (refine (toPuzzle_any _ _ _ (HA.out.later (B1.trans (hHeld.mono B1.size))) hn).mono ?_); rintro e wP ⟨vP, rfl, kP, hbP⟩; have hoP := hHeld.trans (hbP.mono hHeld.size); have nP := hoP.size; have nP2 := hbP.size; obtain ⟨aP, mP, cP, hvP⟩ := own_formT kP.1; subst hvP; have kP := kP.wider (B' := w1.heap.size) hHeld.size (Nat.le_refl _)
      go_wp2_with fail
      refine hK.out _ _ (by (try dsimp only); exact hoP) (fun hHeld => ?_)
      clear hK K
      refine wpAnyH_ready (rs := [3, 8]) (by kernel_rfl) (by simp) ?_
      refine AllReadyH.cons rfl (fun K hK => ?_) (AllReadyH.cons rfl (fun K hK => ?_) AllReadyH.nil)
      · skip
        simp only [List.getElem_toArray, List.getElem_cons_zero, List.getElem_cons_succ]
        go_simp
        go_at_call 27; (refine (toClue_any _ _ _ _).mono ?_); rintro e wC ⟨rfl, hbC⟩; have hoC := hHeld.trans (hbC.mono hHeld.size); have nC := hoC.size; have nC2 := hbC.size; have kP := kP.keep (belowSame hbC (by omega))
        go_wp2_with fail
        refine hK.out _ _ (by (try dsimp only); exact hoC) (fun hHeld => ?_)
        clear hK K
        refine wpAnyH_ready (rs := [4, 8]) (by kernel_rfl) (by simp) ?_
        refine AllReadyH.cons rfl (fun K hK => ?_) (AllReadyH.cons rfl (fun K hK => ?_) AllReadyH.nil)
        · skip
          simp only [List.getElem_toArray, List.getElem_cons_zero, List.getElem_cons_succ]
          go_simp
          go_at_call 26; (refine (HS.out _ _ _ _ (HW.out.later (B1.trans (hHeld.mono B1.size))) kP (by have := hHeld.size; omega)).mono ?_); rintro e wF ⟨vF, rfl, kF, hbF⟩; have hoF := hHeld.trans (hbF.mono hHeld.size); have nF := hoF.size; have hz9 := hHeld.size; have hzF := hbF.size; obtain ⟨va, ma, ca, hvF⟩ := own_formT kF.1; subst hvF; obtain ⟨BF, hBF, kF⟩ : ∃ BF, BF = _ ∧ TripsIn _ wF BF _ _ _ := ⟨_, rfl, kF⟩
          go_wp2_with fail
          refine hK.out _ _ (by (try dsimp only); exact hoF) (fun hHeld => ?_)
          clear hK K
          refine wpAnyH_take (i := 5) (v := ?v37) rfl (by kernel_rfl) (by kernel_rfl) (by kernel_rfl) (fun _ _ _ h => h) (Or.inl ⟨by rfl, ?hy37⟩) (by assumption) ?rest37
          case hy37 => (intro w hSw; (try dsimp only at hSw); go_simp; (try with_reducible rfl))
          simp only [Act.put, List.getElem_toArray, List.getElem_cons_zero, List.getElem_cons_succ, List.setIfInBounds_toArray, List.set_cons_zero, List.set_cons_succ]
          refine wpAnyH_take (i := 6) (v := ?v38) rfl (by kernel_rfl) (by kernel_rfl) (by kernel_rfl) (fun _ _ _ h => h) (Or.inl ⟨by rfl, ?hy38⟩) (by assumption) ?rest38
          case hy38 => (intro w hSw; (try dsimp only at hSw); go_simp; (try with_reducible rfl))
          simp only [Act.put, List.getElem_toArray, List.getElem_cons_zero, List.getElem_cons_succ, List.setIfInBounds_toArray, List.set_cons_zero, List.set_cons_succ]
          refine wpAnyH_take (i := 7) (v := ?v39) rfl (by kernel_rfl) (by kernel_rfl) (by kernel_rfl) (fun _ _ _ h => h) (Or.inl ⟨by rfl, ?hy39⟩) (by assumption) ?rest39
          case hy39 => (intro w hSw; (try dsimp only at hSw); go_simp; (try with_reducible rfl))
          simp only [Act.put, List.getElem_toArray, List.getElem_cons_zero, List.getElem_cons_succ, List.setIfInBounds_toArray, List.set_cons_zero, List.set_cons_succ]
          refine wpAnyH_ready (rs := [8]) (by kernel_rfl) (by simp) ?_
          refine AllReadyH.cons rfl (fun K hK => ?_) AllReadyH.nil
          simp only [List.getElem_toArray, List.getElem_cons_zero, List.getElem_cons_succ]
          go_simp
          refine hK.out _ _ (by (try dsimp only); first | exact hHeld.alloc hHeld.size _ | exact bdn (hHeld.alloc hHeld.size _) _ | go_grown) (fun hHeld => ?_)
          clear hK K
          obtain ⟨wz, hwz⟩ : ∃ z : World, z = (wF.alloc (.cells #[.slice none 0 0] 31)) := ⟨_, rfl⟩; (have hzc : wz.cell? ⟨wF.heap.size, 0, none⟩ = some (.slice none 0 0) := by (subst hwz; first | (simp; done) | (go_simp; done) | rfl)); (have hzf : wz.frozen? ⟨wF.heap.size, 0, none⟩ = false := by (subst hwz; first | (simp; done) | (go_simp; done) | rfl)); (have hzb : Below wF.heap.size wF wz := by (subst hwz; go_grown)); (have hzz : wF.heap.size < wz.heap.size := by (subst hwz; simp)); rw [← hwz] at hHeld ⊢; clear hwz; have nz := hHeld.size; have kF := kF.keep (belowSame hzb (Nat.le_refl _))
          refine wpAnyH_ready (rs := [9]) (by kernel_rfl) (by simp) ?_
          refine AllReadyH.cons rfl (fun K hK => ?_) AllReadyH.nil
          simp only [List.getElem_toArray, List.getElem_cons_zero, List.getElem_cons_succ]
          go_simp
          refine hK.out _ _ (by (try dsimp only); exact hHeld.setC _ _ (by show w1.heap.size ≤ wF.heap.size; omega)) (fun hHeld => ?_)
          clear hK K
          refine wpAnyH_take (i := 10) (v := ?v40) rfl (by kernel_rfl) (by kernel_rfl) (by kernel_rfl) (fun _ _ _ h => h) (Or.inl ⟨by rfl, ?hy40⟩) (by assumption) ?rest40
          case hy40 => (intro w hSw; (try dsimp only at hSw); go_simp; (try with_reducible rfl))
          simp only [Act.put, List.getElem_toArray, List.getElem_cons_zero, List.getElem_cons_succ, List.setIfInBounds_toArray, List.set_cons_zero, List.set_cons_succ]
          have hR : w1.heap.size ≤ wF.heap.size ∧ wF.heap.size < (wz.setCell ⟨wF.heap.size, 0, none⟩ (.slice va ma ca)).heap.size ∧ w1.heap.size ≤ BF ∧ wF.heap.size ≤ (wz.setCell ⟨wF.heap.size, 0, none⟩ (.slice va ma ca)).heap.size ∧ (wF.heap.size < BF ∨ wF.heap.size ≤ wF.heap.size) ∧ (wz.setCell ⟨wF.heap.size, 0, none⟩ (.slice va ma ca)).cell? ⟨wF.heap.size, 0, none⟩ = some (.slice va ma ca) ∧ TripsIn 44 (wz.setCell ⟨wF.heap.size, 0, none⟩ (.slice va ma ca)) BF wF.heap.size (.slice va ma ca) x ∧ Below w1.heap.size w1 (wz.setCell ⟨wF.heap.size, 0, none⟩ (.slice va ma ca)) := ⟨by omega, by first | omega | (simp; done) | (simp; omega), by omega, by first | omega | (simp; done) | (simp; omega), by omega, by go_simp, kF.keep (fun k hk1 hk2 => setCell_other _ _ _ (by show wF.heap.size ≠ k; omega)), hHeld⟩
          refine wpAnyH_done (by kernel_rfl) ?_ _
          go_wp2_with fail
          go_meet
          case rel => exact ⟨_, _, _, _, _, _, rfl, rfl, hR⟩
        · skip
          simp only [List.getElem_toArray, List.getElem_cons_zero, List.getElem_cons_succ]
          go_simp
          refine hK.out _ _ (by (try dsimp only); first | exact hHeld.alloc hHeld.size _ | exact bdn (hHeld.alloc hHeld.size _) _ | go_grown) (fun hHeld => ?_)
          clear hK K
          obtain ⟨wz, hwz⟩ : ∃ z : World, z = (wC.alloc (.cells #[.slice none 0 0] 31)) := ⟨_, rfl⟩; (have hzc : wz.cell? ⟨wC.heap.size, 0, none⟩ = some (.slice none 0 0) := by (subst hwz; first | (simp; done) | (go_simp; done) | rfl)); (have hzf : wz.frozen? ⟨wC.heap.size, 0, none⟩ = false := by (subst hwz; first | (simp; done) | (go_simp; done) | rfl)); (have hzb : Below wC.heap.size wC wz := by (subst hwz; go_grown)); (have hzz : wC.heap.size < wz.heap.size := by (subst hwz; simp)); rw [← hwz] at hHeld ⊢; clear hwz; have nz := hHeld.size; have kP := kP.keep (belowSame hzb (by omega))
          refine wpAnyH_ready (rs := [4]) (by kernel_rfl) (by simp) ?_
          refine AllReadyH.cons rfl (fun K hK => ?_) AllReadyH.nil
          simp only [List.getElem_toArray, List.getElem_cons_zero, List.getElem_cons_succ]
          go_simp
          go_at_call 26; (refine (HS.out _ _ _ _ (HW.out.later (B1.trans (hHeld.mono B1.size))) kP (by have := hHeld.size; omega)).mono ?_); rintro e wF ⟨vF, rfl, kF, hbF⟩; have hoF := hHeld.trans (hbF.mono hHeld.size); have nF := hoF.size; have hz9 := hHeld.size; have hzF := hbF.size; obtain ⟨va, ma, ca, hvF⟩ := own_formT kF.1; subst hvF; have hzc := cellB hbF hzc; have hzf := frozenB hbF (by omega) hzf; obtain ⟨BF, hBF, kF⟩ : ∃ BF, BF = _ ∧ TripsIn _ wF BF _ _ _ := ⟨_, rfl, kF⟩
          go_wp2_with fail
          refine hK.out _ _ (by (try dsimp only); exact hoF) (fun hHeld => ?_)
          clear hK K
          refine wpAnyH_take (i := 5) (v := ?v41) rfl (by kernel_rfl) (by kernel_rfl) (by kernel_rfl) (fun _ _ _ h => h) (Or.inl ⟨by rfl, ?hy41⟩) (by assumption) ?rest41
          case hy41 => (intro w hSw; (try dsimp only at hSw); go_simp; (try with_reducible rfl))
          simp only [Act.put, List.getElem_toArray, List.getElem_cons_zero, List.getElem_cons_succ, List.setIfInBounds_toArray, List.set_cons_zero, List.set_cons_succ]
          refine wpAnyH_take (i := 6) (v := ?v42) rfl (by kernel_rfl) (by kernel_rfl) (by kernel_rfl) (fun _ _ _ h => h) (Or.inl ⟨by rfl, ?hy42⟩) (by assumption) ?rest42
          case hy42 => (intro w hSw; (try dsimp only at hSw); go_simp; (try with_reducible rfl))
          simp only [Act.put, List.getElem_toArray, List.getElem_cons_zero, List.getElem_cons_succ, List.setIfInBounds_toArray, List.set_cons_zero, List.set_cons_succ]
          refine wpAnyH_take (i := 7) (v := ?v43) rfl (by kernel_rfl) (by kernel_rfl) (by kernel_rfl) (fun _ _ _ h => h) (Or.inl ⟨by rfl, ?hy43⟩) (by assumption) ?rest43
          case hy43 => (intro w hSw; (try dsimp only at hSw); go_simp; (try with_reducible rfl))
          simp only [Act.put, List.getElem_toArray, List.getElem_cons_zero, List.getElem_cons_succ, List.setIfInBounds_toArray, List.set_cons_zero, List.set_cons_succ]
          refine wpAnyH_ready (rs := [9]) (by kernel_rfl) (by simp) ?_
          refine AllReadyH.cons rfl (fun K hK => ?_) AllReadyH.nil
          simp only [List.getElem_toArray, List.getElem_cons_zero, List.getElem_cons_succ]
          go_simp
          refine hK.out _ _ (by (try dsimp only); exact hHeld.setC _ _ (by show w1.heap.size ≤ wC.heap.size; omega)) (fun hHeld => ?_)
          clear hK K
          refine wpAnyH_take (i := 10) (v := ?v44) rfl (by kernel_rfl) (by kernel_rfl) (by kernel_rfl) (fun _ _ _ h => h) (Or.inl ⟨by rfl, ?hy44⟩) (by assumption) ?rest44
          case hy44 => (intro w hSw; (try dsimp only at hSw); go_simp; (try with_reducible rfl))
          simp only [Act.put, List.getElem_toArray, List.getElem_cons_zero, List.getElem_cons_succ, List.setIfInBounds_toArray, List.set_cons_zero, List.set_cons_succ]
          have hR : w1.heap.size ≤ wC.heap.size ∧ wC.heap.size < (wF.setCell ⟨wC.heap.size, 0, none⟩ (.slice va ma ca)).heap.size ∧ w1.heap.size ≤ BF ∧ wF.heap.size ≤ (wF.setCell ⟨wC.heap.size, 0, none⟩ (.slice va ma ca)).heap.size ∧ (wC.heap.size < BF ∨ wF.heap.size ≤ wC.heap.size) ∧ (wF.setCell ⟨wC.heap.size, 0, none⟩ (.slice va ma ca)).cell? ⟨wC.heap.size, 0, none⟩ = some (.slice va ma ca) ∧ TripsIn 44 (wF.setCell ⟨wC.heap.size, 0, none⟩ (.slice va ma ca)) BF wF.heap.size (.slice va ma ca) x ∧ Below w1.heap.size w1 (wF.setCell ⟨wC.heap.size, 0, none⟩ (.slice va ma ca)) := ⟨by omega, by first | omega | (simp; done) | (simp; omega), by omega, by first | omega | (simp; done) | (simp; omega), by omega, by go_simp, kF.setC _ _ (by show wC.heap.size < BF; omega), hHeld⟩
          refine wpAnyH_done (by kernel_rfl) ?_ _
          go_wp2_with fail
          go_meet
          case rel => exact ⟨_, _, _, _, _, _, rfl, rfl, hR⟩
      · skip
        simp only [List.getElem_toArray, List.getElem_cons_zero, List.getElem_cons_succ]
        go_simp
        refine hK.out _ _ (by (try dsimp only); first | exact hHeld.alloc hHeld.size _ | exact bdn (hHeld.alloc hHeld.size _) _ | go_grown) (fun hHeld => ?_)
        clear hK K
        obtain ⟨wz, hwz⟩ : ∃ z : World, z = (wP.alloc (.cells #[.slice none 0 0] 31)) := ⟨_, rfl⟩; (have hzc : wz.cell? ⟨wP.heap.size, 0, none⟩ = some (.slice none 0 0) := by (subst hwz; first | (simp; done) | (go_simp; done) | rfl)); (have hzf : wz.frozen? ⟨wP.heap.size, 0, none⟩ = false := by (subst hwz; first | (simp; done) | (go_simp; done) | rfl)); (have hzb : Below wP.heap.size wP wz := by (subst hwz; go_grown)); (have hzz : wP.heap.size < wz.heap.size := by (subst hwz; simp)); rw [← hwz] at hHeld ⊢; clear hwz; have nz := hHeld.size; have kP := kP.keep (belowSame hzb (by omega))
        refine wpAnyH_ready (rs := [3]) (by kernel_rfl) (by simp) ?_
        refine AllReadyH.cons rfl (fun K hK => ?_) AllReadyH.nil
        simp only [List.getElem_toArray, List.getElem_cons_zero, List.getElem_cons_succ]
        go_simp
        go_at_call 27; (refine (toClue_any _ _ _ _).mono ?_); rintro e wC ⟨rfl, hbC⟩; have hoC := hHeld.trans (hbC.mono hHeld.size); have nC := hoC.size; have nC2 := hbC.size; have kP := kP.keep (belowSame hbC (by omega)); have hzc := cellB hbC hzc; have hzf := frozenB hbC (by omega) hzf
        go_wp2_with fail
        refine hK.out _ _ (by (try dsimp only); exact hoC) (fun hHeld => ?_)
        clear hK K
        refine wpAnyH_ready (rs := [4]) (by kernel_rfl) (by simp) ?_
        refine AllReadyH.cons rfl (fun K hK => ?_) AllReadyH.nil
        simp only [List.getElem_toArray, List.getElem_cons_zero, List.getElem_cons_succ]
        go_simp
        go_at_call 26; (refine (HS.out _ _ _ _ (HW.out.later (B1.trans (hHeld.mono B1.size))) kP (by have := hHeld.size; omega)).mono ?_); rintro e wF ⟨vF, rfl, kF, hbF⟩; have hoF := hHeld.trans (hbF.mono hHeld.size); have nF := hoF.size; have hz9 := hHeld.size; have hzF := hbF.size; obtain ⟨va, ma, ca, hvF⟩ := own_formT kF.1; subst hvF; have hzc := cellB hbF hzc; have hzf := frozenB hbF (by omega) hzf; obtain ⟨BF, hBF, kF⟩ : ∃ BF, BF = _ ∧ TripsIn _ wF BF _ _ _ := ⟨_, rfl, kF⟩
        go_wp2_with fail
        refine hK.out _ _ (by (try dsimp only); exact hoF) (fun hHeld => ?_)
        clear hK K
        refine wpAnyH_take (i := 5) (v := ?v45) rfl (by kernel_rfl) (by kernel_rfl) (by kernel_rfl) (fun _ _ _ h => h) (Or.inl ⟨by rfl, ?hy45⟩) (by assumption) ?rest45
        case hy45 => (intro w hSw; (try dsimp only at hSw); go_simp; (try with_reducible rfl))
        simp only [Act.put, List.getElem_toArray, List.getElem_cons_zero, List.getElem_cons_succ, List.setIfInBounds_toArray, List.set_cons_zero, List.set_cons_succ]
        refine wpAnyH_take (i := 6) (v := ?v46) rfl (by kernel_rfl) (by kernel_rfl) (by kernel_rfl) (fun _ _ _ h => h) (Or.inl ⟨by rfl, ?hy46⟩) (by assumption) ?rest46
        case hy46 => (intro w hSw; (try dsimp only at hSw); go_simp; (try with_reducible rfl))
        simp only [Act.put, List.getElem_toArray, List.getElem_cons_zero, List.getElem_cons_succ, List.setIfInBounds_toArray, List.set_cons_zero, List.set_cons_succ]
        refine wpAnyH_take (i := 7) (v := ?v47) rfl (by kernel_rfl) (by kernel_rfl) (by kernel_rfl) (fun _ _ _ h => h) (Or.inl ⟨by rfl, ?hy47⟩) (by assumption) ?rest47
        case hy47 => (intro w hSw; (try dsimp only at hSw); go_simp; (try with_reducible rfl))
        simp only [Act.put, List.getElem_toArray, List.getElem_cons_zero, List.getElem_cons_succ, List.setIfInBounds_toArray, List.set_cons_zero, List.set_cons_succ]
        refine wpAnyH_ready (rs := [9]) (by kernel_rfl) (by simp) ?_
        refine AllReadyH.cons rfl (fun K hK => ?_) AllReadyH.nil
        simp only [List.getElem_toArray, List.getElem_cons_zero, List.getElem_cons_succ]
        go_simp
        refine hK.out _ _ (by (try dsimp only); exact hHeld.setC _ _ (by show w1.heap.size ≤ wP.heap.size; omega)) (fun hHeld => ?_)
        clear hK K
        refine wpAnyH_take (i := 10) (v := ?v48) rfl (by kernel_rfl) (by kernel_rfl) (by kernel_rfl) (fun _ _ _ h => h) (Or.inl ⟨by rfl, ?hy48⟩) (by assumption) ?rest48
        case hy48 => (intro w hSw; (try dsimp only at hSw); go_simp; (try with_reducible rfl))
        simp only [Act.put, List.getElem_toArray, List.getElem_cons_zero, List.getElem_cons_succ, List.setIfInBounds_toArray, List.set_cons_zero, List.set_cons_succ]
        have hR : w1.heap.size ≤ wP.heap.size ∧ wP.heap.size < (wF.setCell ⟨wP.heap.size, 0, none⟩ (.slice va ma ca)).heap.size ∧ w1.heap.size ≤ BF ∧ wF.heap.size ≤ (wF.setCell ⟨wP.heap.size, 0, none⟩ (.slice va ma ca)).heap.size ∧ (wP.heap.size < BF ∨ wF.heap.size ≤ wP.heap.size) ∧ (wF.setCell ⟨wP.heap.size, 0, none⟩ (.slice va ma ca)).cell? ⟨wP.heap.size, 0, none⟩ = some (.slice va ma ca) ∧ TripsIn 44 (wF.setCell ⟨wP.heap.size, 0, none⟩ (.slice va ma ca)) BF wF.heap.size (.slice va ma ca) x ∧ Below w1.heap.size w1 (wF.setCell ⟨wP.heap.size, 0, none⟩ (.slice va ma ca)) := ⟨by omega, by first | omega | (simp; done) | (simp; omega), by omega, by first | omega | (simp; done) | (simp; omega), by omega, by go_simp, kF.setC _ _ (by show wP.heap.size < BF; omega), hHeld⟩
        refine wpAnyH_done (by kernel_rfl) ?_ _
        go_wp2_with fail
        go_meet
        case rel => exact ⟨_, _, _, _, _, _, rfl, rfl, hR⟩
    · skip
      simp only [List.getElem_toArray, List.getElem_cons_zero, List.getElem_cons_succ]
      go_simp
      refine hK.out _ _ (by (try dsimp only); first | exact hHeld.alloc hHeld.size _ | exact bdn (hHeld.alloc hHeld.size _) _ | go_grown) (fun hHeld => ?_)
      clear hK K
      obtain ⟨wz, hwz⟩ : ∃ z : World, z = (w1.alloc (.cells #[.slice none 0 0] 31)).drew := ⟨_, rfl⟩; (have hzc : wz.cell? ⟨w1.heap.size, 0, none⟩ = some (.slice none 0 0) := by (subst hwz; first | (simp; done) | (go_simp; done) | rfl)); (have hzf : wz.frozen? ⟨w1.heap.size, 0, none⟩ = false := by (subst hwz; first | (simp; done) | (go_simp; done) | rfl)); (have hzb : Below w1.heap.size w1 wz := by (subst hwz; go_grown)); (have hzz : w1.heap.size < wz.heap.size := by (subst hwz; simp)); rw [← hwz] at hHeld ⊢; clear hwz; have nz := hHeld.size
      refine wpAnyH_ready (rs := [1]) (by kernel_rfl) (by simp) ?_
      refine AllReadyH.cons rfl (fun K hK => ?_) AllReadyH.nil
      simp only [List.getElem_toArray, List.getElem_cons_zero, List.getElem_cons_succ]
      go_simp
      go_at_call 16; (refine (toPuzzle_any _ _ _ (HA.out.later (B1.trans (hHeld.mono B1.size))) hn).mono ?_); rintro e wP ⟨vP, rfl, kP, hbP⟩; have hoP := hHeld.trans (hbP.mono hHeld.size); have nP := hoP.size; have nP2 := hbP.size; obtain ⟨aP, mP, cP, hvP⟩ := own_formT kP.1; subst hvP; have kP := kP.wider (B' := w1.heap.size) hHeld.size (Nat.le_refl _); have hzc := cellB hbP hzc; have hzf := frozenB hbP (by omega) hzf
      go_wp2_with fail
      refine hK.out _ _ (by (try dsimp only); exact hoP) (fun hHeld => ?_)
      clear hK K
      refine wpAnyH_ready (rs := [3]) (by kernel_rfl) (by simp) ?_
      refine AllReadyH.cons rfl (fun K hK => ?_) AllReadyH.nil
      simp only [List.getElem_toArray, List.getElem_cons_zero, List.getElem_cons_succ]
      go_simp
      go_at_call 27; (refine (toClue_any _ _ _ _).mono ?_); rintro e wC ⟨rfl, hbC⟩; have hoC := hHeld.trans (hbC.mono hHeld.size); have nC := hoC.size; have nC2 := hbC.size; have kP := kP.keep (belowSame hbC (by omega)); have hzc := cellB hbC hzc; have hzf := frozenB hbC (by omega) hzf
      go_wp2_with fail
      refine hK.out _ _ (by (try dsimp only); exact hoC) (fun hHeld => ?_)
      clear hK K
      refine wpAnyH_ready (rs := [4]) (by kernel_rfl) (by simp) ?_
      refine AllReadyH.cons rfl (fun K hK => ?_) AllReadyH.nil
      simp only [List.getElem_toArray, List.getElem_cons_zero, List.getElem_cons_succ]
      go_simp
      go_at_call 26; (refine (HS.out _ _ _ _ (HW.out.later (B1.trans (hHeld.mono B1.size))) kP (by have := hHeld.size; omega)).mono ?_); rintro e wF ⟨vF, rfl, kF, hbF⟩; have hoF := hHeld.trans (hbF.mono hHeld.size); have nF := hoF.size; have hz9 := hHeld.size; have hzF := hbF.size; obtain ⟨va, ma, ca, hvF⟩ := own_formT kF.1; subst hvF; have hzc := cellB hbF hzc; have hzf := frozenB hbF (by omega) hzf; obtain ⟨BF, hBF, kF⟩ : ∃ BF, BF = _ ∧ TripsIn _ wF BF _ _ _ := ⟨_, rfl, kF⟩
      go_wp2_with fail
      refine hK.out _ _ (by (try dsimp only); exact hoF) (fun hHeld => ?_)
      clear hK K
      refine wpAnyH_take (i := 5) (v := ?v49) rfl (by kernel_rfl) (by kernel_rfl) (by kernel_rfl) (fun _ _ _ h => h) (Or.inl ⟨by rfl, ?hy49⟩) (by assumption) ?rest49
      case hy49 => (intro w hSw; (try dsimp only at hSw); go_simp; (try with_reducible rfl))
      simp only [Act.put, List.getElem_toArray, List.getElem_cons_zero, List.getElem_cons_succ, List.setIfInBounds_toArray, List.set_cons_zero, List.set_cons_succ]
      refine wpAnyH_take (i := 6) (v := ?v50) rfl (by kernel_rfl) (by kernel_rfl) (by kernel_rfl) (fun _ _ _ h => h) (Or.inl ⟨by rfl, ?hy50⟩) (by assumption) ?rest50
      case hy50 => (intro w hSw; (try dsimp only at hSw); go_simp; (try with_reducible rfl))
      simp only [Act.put, List.getElem_toArray, List.getElem_cons_zero, List.getElem_cons_succ, List.setIfInBounds_toArray, List.set_cons_zero, List.set_cons_succ]
      refine wpAnyH_take (i := 7) (v := ?v51) rfl (by kernel_rfl) (by kernel_rfl) (by kernel_rfl) (fun _ _ _ h => h) (Or.inl ⟨by rfl, ?hy51⟩) (by assumption) ?rest51
      case hy51 => (intro w hSw; (try dsimp only at hSw); go_simp; (try with_reducible rfl))
      simp only [Act.put, List.getElem_toArray, List.getElem_cons_zero, List.getElem_cons_succ, List.setIfInBounds_toArray, List.set_cons_zero, List.set_cons_succ]
      refine wpAnyH_ready (rs := [9]) (by kernel_rfl) (by simp) ?_
      refine AllReadyH.cons rfl (fun K hK => ?_) AllReadyH.nil
      simp only [List.getElem_toArray, List.getElem_cons_zero, List.getElem_cons_succ]
      go_simp
      refine hK.out _ _ (by (try dsimp only); exact hHeld.setC _ _ (by show w1.heap.size ≤ w1.heap.size; omega)) (fun hHeld => ?_)
      clear hK K
      refine wpAnyH_take (i := 10) (v := ?v52) rfl (by kernel_rfl) (by kernel_rfl) (by kernel_rfl) (fun _ _ _ h => h) (Or.inl ⟨by rfl, ?hy52⟩) (by assumption) ?rest52
      case hy52 => (intro w hSw; (try dsimp only at hSw); go_simp; (try with_reducible rfl))
      simp only [Act.put, List.getElem_toArray, List.getElem_cons_zero, List.getElem_cons_succ, List.setIfInBounds_toArray, List.set_cons_zero, List.set_cons_succ]
      have hR : w1.heap.size ≤ w1.heap.size ∧ w1.heap.size < (wF.setCell ⟨w1.heap.size, 0, none⟩ (.slice va ma ca)).heap.size ∧ w1.heap.size ≤ BF ∧ wF.heap.size ≤ (wF.setCell ⟨w1.heap.size, 0, none⟩ (.slice va ma ca)).heap.size ∧ (w1.heap.size < BF ∨ wF.heap.size ≤ w1.heap.size) ∧ (wF.setCell ⟨w1.heap.size, 0, none⟩ (.slice va ma ca)).cell? ⟨w1.heap.size, 0, none⟩ = some (.slice va ma ca) ∧ TripsIn 44 (wF.setCell ⟨w1.heap.size, 0, none⟩ (.slice va ma ca)) BF wF.heap.size (.slice va ma ca) x ∧ Below w1.heap.size w1 (wF.setCell ⟨w1.heap.size, 0, none⟩ (.slice va ma ca)) := ⟨by omega, by first | omega | (simp; done) | (simp; omega), by omega, by first | omega | (simp; done) | (simp; omega), by omega, by go_simp, kF.setC _ _ (by show w1.heap.size < BF; omega), hHeld⟩
      refine wpAnyH_done (by kernel_rfl) ?_ _
      go_wp2_with fail
      go_meet
      case rel => exact ⟨_, _, _, _, _, _, rfl, rfl, hR⟩
  obtain ⟨w2, rfl⟩ : ∃ z, z = wc := ⟨wc, rfl⟩
  obtain ⟨nbzw, azw, mzw, czw, Bzw_, Tzw_, hs0, hs1, qa2, qb2, qc2, qd2, qe2, zzw2, kw_2, hb2⟩ := hcut
  subst hs0 hs1
  have n2 := hb2.size
  have B2 := B1.trans (hb2.mono (by omega))
  have zp2 := cellB hb2 zp1
  have zkx2 := cellB hb2 zkx1
  have zky2 := cellB hb2 zky1
  have zkz2 := cellB hb2 zkz1
  clear zp1 zkx1 zky1 zkz1
  go_wp2_with fail
  refine (toPuzzle_any _ _ _ (HA.out.later B2) hn).mono ?_
  rintro e w3 ⟨vc, rfl, kc_3, hx3⟩
  have hb3 : Below w2.heap.size w2 w3 := Below.trans (by go_grown) (hx3.mono (by first | omega | (simp; done) | (simp; omega)))
  have n3 : w2.heap.size + 0 ≤ w3.heap.size := by have := hx3.size; (try simp at this); omega
  have B3 : Below w.heap.size w w3 := B2.trans (hb3.mono (by omega))
  have zp3 := cellB hb3 zp2
  have zkx3 := cellB hb3 zkx2
  have zky3 := cellB hb3 zky2
  have zkz3 := cellB hb3 zkz2
  have zzw3 := cellB hb3 zzw2
  clear zp2 zkx2 zky2 zkz2 zzw2
  have kw_3 := kw_2.keep (belowSame hb3 (by omega))
  obtain ⟨ac, mc, cc, hvc⟩ := own_formT kc_3.1
  subst hvc
  go_upto_region 7 with fail
  obtain ⟨w4, hw4⟩ : ∃ z : World, z = (w3.alloc (.cells #[Value.slice ac mc cc] 31)) := ⟨_, rfl⟩
  have hx4 : Below (w3.alloc (.cells #[Value.slice ac mc cc] 31)).heap.size (w3.alloc (.cells #[Value.slice ac mc cc] 31)) w4 := by rw [hw4]; exact Below.refl _ _
  have hb4 : Below w3.heap.size w3 w4 := Below.trans (by go_grown) (hx4.mono (by first | omega | (simp; done) | (simp; omega)))
  have n4 : w3.heap.size + 1 ≤ w4.heap.size := by have := hx4.size; (try simp at this); omega
  have B4 : Below w.heap.size w w4 := B3.trans (hb4.mono (by omega))
  have zp4 := cellB hb4 zp3
  have zkx4 := cellB hb4 zkx3
  have zky4 := cellB hb4 zky3
  have zkz4 := cellB hb4 zkz3
  have zzw4 := cellB hb4 zzw3
  clear zp3 zkx3 zky3 zkz3 zzw3
  have zc4 : w4.cell? ⟨w3.heap.size, 0, none⟩ = some (.slice ac mc cc) := cellB hx4 (by go_simp)
  have kw_4 := kw_3.keep (belowSame hb4 (by omega))
  have kc_4 := kc_3.keep (belowSame hb4 (by omega))
  rw [← hw4]
  clear hw4 hx4
  go_upto_region 7 with fail
  go_cut [9, 10] from 16 (fun s0 s1 wx => ∃ (nb : Nat) (va : Option Addr) (ma ca B T : Nat), s0 = .pointer (some ⟨nb, 0, none⟩) ∧ s1 = .bool b ∧ w4.heap.size ≤ nb ∧ nb < (wx).heap.size ∧ w4.heap.size ≤ B ∧ T ≤ (wx).heap.size ∧ (nb < B ∨ T ≤ nb) ∧ (wx).cell? ⟨nb, 0, none⟩ = some (.slice va ma ca) ∧ TripsIn 44 (wx) B T (.slice va ma ca) x ∧ Below w4.heap.size w4 (wx))
  case first =>
    refine wp_region_held_drew (S := fun w' => Below w4.heap.size w4 w') (by kernel_rfl) (by (try dsimp only); first | exact Below.refl _ _ | go_grown) (fun hHeld => ?_)
    refine wpAnyH_take (i := 0) (v := ?v53) rfl (by kernel_rfl) (by kernel_rfl) (by kernel_rfl) (fun _ _ _ h => h) (Or.inl ⟨by rfl, ?hy53⟩) (by assumption) ?rest53
    case hy53 => (intro w hSw; (try dsimp only at hSw); have zq0 := cellB hSw zc4; go_simp; (try with_reducible rfl))
    simp only [Act.put, List.getElem_toArray, List.getElem_cons_zero, List.setIfInBounds_toArray, List.set_cons_zero, List.set_cons_succ]
    refine wpAnyH_take (i := 1) (v := ?v54) rfl (by kernel_rfl) (by kernel_rfl) (by kernel_rfl) (fun _ _ _ h => h) (Or.inl ⟨by rfl, ?hy54⟩) (by assumption) ?rest54
    case hy54 => (intro w hSw; (try dsimp only at hSw); have zq0 := cellB hSw zkx4; have zq1 := cellB hSw zky4; have zq2 := cellB hSw zkz4; go_simp; (try with_reducible rfl))
    simp only [Act.put, List.getElem_toArray, List.getElem_cons_zero, List.getElem_cons_succ, List.setIfInBounds_toArray, List.set_cons_zero, List.set_cons_succ]
    refine wpAnyH_ready (rs := [2, 7]) (by kernel_rfl) (by simp) ?_
    refine AllReadyH.cons rfl (fun K hK => ?_) (AllReadyH.cons rfl (fun K hK => ?_) AllReadyH.nil)
    · skip
      simp only [List.getElem_toArray, List.getElem_cons_zero, List.getElem_cons_succ]
      go_simp
      go_at_call 27; (refine (toClue_any _ _ _ _).mono ?_); rintro e wC ⟨rfl, hbC⟩; have hoC := hHeld.trans (hbC.mono hHeld.size); have nC := hoC.size; have nC2 := hbC.size
      go_wp2_with fail
      refine hK.out _ _ (by (try dsimp only); exact hoC) (fun hHeld => ?_)
      clear hK K
      refine wpAnyH_ready (rs := [3, 7]) (by kernel_rfl) (by simp) ?_
      refine AllReadyH.cons rfl (fun K hK => ?_) (AllReadyH.cons rfl (fun K hK => ?_) AllReadyH.nil)
      · skip
        simp only [List.getElem_toArray, List.getElem_cons_zero, List.getElem_cons_succ]
        go_simp
        go_at_call 28; (refine (HI.out _ _ _ _ (HW.out.later (B4.trans (hHeld.mono B4.size))) (kc_4.keep (belowSame hHeld (by omega))) (by have := hHeld.size; omega)).mono ?_); rintro e wF ⟨vF, rfl, kF, hbF⟩; have hoF := hHeld.trans (hbF.mono hHeld.size); have nF := hoF.size; have hz9 := hHeld.size; have hzF := hbF.size; obtain ⟨va, ma, ca, hvF⟩ := own_formT kF.1; subst hvF; obtain ⟨BF, hBF, kF⟩ : ∃ BF, BF = _ ∧ TripsIn _ wF BF _ _ _ := ⟨_, rfl, kF⟩
        go_wp2_with fail
        refine hK.out _ _ (by (try dsimp only); exact hoF) (fun hHeld => ?_)
        clear hK K
        refine wpAnyH_take (i := 4) (v := ?v55) rfl (by kernel_rfl) (by kernel_rfl) (by kernel_rfl) (fun _ _ _ h => h) (Or.inl ⟨by rfl, ?hy55⟩) (by assumption) ?rest55
        case hy55 => (intro w hSw; (try dsimp only at hSw); go_simp; (try with_reducible rfl))
        simp only [Act.put, List.getElem_toArray, List.getElem_cons_zero, List.getElem_cons_succ, List.setIfInBounds_toArray, List.set_cons_zero, List.set_cons_succ]
        refine wpAnyH_take (i := 5) (v := ?v56) rfl (by kernel_rfl) (by kernel_rfl) (by kernel_rfl) (fun _ _ _ h => h) (Or.inl ⟨by rfl, ?hy56⟩) (by assumption) ?rest56
        case hy56 => (intro w hSw; (try dsimp only at hSw); go_simp; (try with_reducible rfl))
        simp only [Act.put, List.getElem_toArray, List.getElem_cons_zero, List.getElem_cons_succ, List.setIfInBounds_toArray, List.set_cons_zero, List.set_cons_succ]
        refine wpAnyH_take (i := 6) (v := ?v57) rfl (by kernel_rfl) (by kernel_rfl) (by kernel_rfl) (fun _ _ _ h => h) (Or.inl ⟨by rfl, ?hy57⟩) (by assumption) ?rest57
        case hy57 => (intro w hSw; (try dsimp only at hSw); go_simp; (try with_reducible rfl))
        simp only [Act.put, List.getElem_toArray, List.getElem_cons_zero, List.getElem_cons_succ, List.setIfInBounds_toArray, List.set_cons_zero, List.set_cons_succ]
        refine wpAnyH_ready (rs := [7]) (by kernel_rfl) (by simp) ?_
        refine AllReadyH.cons rfl (fun K hK => ?_) AllReadyH.nil
        simp only [List.getElem_toArray, List.getElem_cons_zero, List.getElem_cons_succ]
        go_simp
        refine hK.out _ _ (by (try dsimp only); first | exact hHeld.alloc hHeld.size _ | exact bdn (hHeld.alloc hHeld.size _) _ | go_grown) (fun hHeld => ?_)
        clear hK K
        obtain ⟨wz, hwz⟩ : ∃ z : World, z = (wF.alloc (.cells #[.slice none 0 0] 31)) := ⟨_, rfl⟩; (have hzc : wz.cell? ⟨wF.heap.size, 0, none⟩ = some (.slice none 0 0) := by (subst hwz; first | (simp; done) | (go_simp; done) | rfl)); (have hzf : wz.frozen? ⟨wF.heap.size, 0, none⟩ = false := by (subst hwz; first | (simp; done) | (go_simp; done) | rfl)); (have hzb : Below wF.heap.size wF wz := by (subst hwz; go_grown)); (have hzz : wF.heap.size < wz.heap.size := by (subst hwz; simp)); rw [← hwz] at hHeld ⊢; clear hwz; have nz := hHeld.size; have kF := kF.keep (belowSame hzb (Nat.le_refl _))
        refine wpAnyH_ready (rs := [8]) (by kernel_rfl) (by simp) ?_
        refine AllReadyH.cons rfl (fun K hK => ?_) AllReadyH.nil
        simp only [List.getElem_toArray, List.getElem_cons_zero, List.getElem_cons_succ]
        go_simp
        refine hK.out _ _ (by (try dsimp only); exact hHeld.setC _ _ (by show w4.heap.size ≤ wF.heap.size; omega)) (fun hHeld => ?_)
        clear hK K
        refine wpAnyH_take (i := 9) (v := ?v58) rfl (by kernel_rfl) (by kernel_rfl) (by kernel_rfl) (fun _ _ _ h => h) (Or.inl ⟨by rfl, ?hy58⟩) (by assumption) ?rest58
        case hy58 => (intro w hSw; (try dsimp only at hSw); go_simp; (try with_reducible rfl))
        simp only [Act.put, List.getElem_toArray, List.getElem_cons_zero, List.getElem_cons_succ, List.setIfInBounds_toArray, List.set_cons_zero, List.set_cons_succ]
        have hR : w4.heap.size ≤ wF.heap.size ∧ wF.heap.size < (wz.setCell ⟨wF.heap.size, 0, none⟩ (.slice va ma ca)).heap.size ∧ w4.heap.size ≤ BF ∧ wF.heap.size ≤ (wz.setCell ⟨wF.heap.size, 0, none⟩ (.slice va ma ca)).heap.size ∧ (wF.heap.size < BF ∨ wF.heap.size ≤ wF.heap.size) ∧ (wz.setCell ⟨wF.heap.size, 0, none⟩ (.slice va ma ca)).cell? ⟨wF.heap.size, 0, none⟩ = some (.slice va ma ca) ∧ TripsIn 44 (wz.setCell ⟨wF.heap.size, 0, none⟩ (.slice va ma ca)) BF wF.heap.size (.slice va ma ca) x ∧ Below w4.heap.size w4 (wz.setCell ⟨wF.heap.size, 0, none⟩ (.slice va ma ca)) := ⟨by omega, by first | omega | (simp; done) | (simp; omega), by omega, by first | omega | (simp; done) | (simp; omega), by omega, by go_simp, kF.keep (fun k hk1 hk2 => setCell_other _ _ _ (by show wF.heap.size ≠ k; omega)), hHeld⟩
        refine wpAnyH_done (by kernel_rfl) ?_ _
        go_wp2_with fail
        go_meet
        case rel => exact ⟨_, _, _, _, _, _, rfl, rfl, hR⟩
      · skip
        simp only [List.getElem_toArray, List.getElem_cons_zero, List.getElem_cons_succ]
        go_simp
        refine hK.out _ _ (by (try dsimp only); first | exact hHeld.alloc hHeld.size _ | exact bdn (hHeld.alloc hHeld.size _) _ | go_grown) (fun hHeld => ?_)
        clear hK K
        obtain ⟨wz, hwz⟩ : ∃ z : World, z = (wC.alloc (.cells #[.slice none 0 0] 31)) := ⟨_, rfl⟩; (have hzc : wz.cell? ⟨wC.heap.size, 0, none⟩ = some (.slice none 0 0) := by (subst hwz; first | (simp; done) | (go_simp; done) | rfl)); (have hzf : wz.frozen? ⟨wC.heap.size, 0, none⟩ = false := by (subst hwz; first | (simp; done) | (go_simp; done) | rfl)); (have hzb : Below wC.heap.size wC wz := by (subst hwz; go_grown)); (have hzz : wC.heap.size < wz.heap.size := by (subst hwz; simp)); rw [← hwz] at hHeld ⊢; clear hwz; have nz := hHeld.size
        refine wpAnyH_ready (rs := [3]) (by kernel_rfl) (by simp) ?_
        refine AllReadyH.cons rfl (fun K hK => ?_) AllReadyH.nil
        simp only [List.getElem_toArray, List.getElem_cons_zero, List.getElem_cons_succ]
        go_simp
        go_at_call 28; (refine (HI.out _ _ _ _ (HW.out.later (B4.trans (hHeld.mono B4.size))) (kc_4.keep (belowSame hHeld (by omega))) (by have := hHeld.size; omega)).mono ?_); rintro e wF ⟨vF, rfl, kF, hbF⟩; have hoF := hHeld.trans (hbF.mono hHeld.size); have nF := hoF.size; have hz9 := hHeld.size; have hzF := hbF.size; obtain ⟨va, ma, ca, hvF⟩ := own_formT kF.1; subst hvF; have hzc := cellB hbF hzc; have hzf := frozenB hbF (by omega) hzf; obtain ⟨BF, hBF, kF⟩ : ∃ BF, BF = _ ∧ TripsIn _ wF BF _ _ _ := ⟨_, rfl, kF⟩
        go_wp2_with fail
        refine hK.out _ _ (by (try dsimp only); exact hoF) (fun hHeld => ?_)
        clear hK K
        refine wpAnyH_take (i := 4) (v := ?v59) rfl (by kernel_rfl) (by kernel_rfl) (by kernel_rfl) (fun _ _ _ h => h) (Or.inl ⟨by rfl, ?hy59⟩) (by assumption) ?rest59
        case hy59 => (intro w hSw; (try dsimp only at hSw); go_simp; (try with_reducible rfl))
        simp only [Act.put, List.getElem_toArray, List.getElem_cons_zero, List.getElem_cons_succ, List.setIfInBounds_toArray, List.set_cons_zero, List.set_cons_succ]
        refine wpAnyH_take (i := 5) (v := ?v60) rfl (by kernel_rfl) (by kernel_rfl) (by kernel_rfl) (fun _ _ _ h => h) (Or.inl ⟨by rfl, ?hy60⟩) (by assumption) ?rest60
        case hy60 => (intro w hSw; (try dsimp only at hSw); go_simp; (try with_reducible rfl))
        simp only [Act.put, List.getElem_toArray, List.getElem_cons_zero, List.getElem_cons_succ, List.setIfInBounds_toArray, List.set_cons_zero, List.set_cons_succ]
        refine wpAnyH_take (i := 6) (v := ?v61) rfl (by kernel_rfl) (by kernel_rfl) (by kernel_rfl) (fun _ _ _ h => h) (Or.inl ⟨by rfl, ?hy61⟩) (by assumption) ?rest61
        case hy61 => (intro w hSw; (try dsimp only at hSw); go_simp; (try with_reducible rfl))
        simp only [Act.put, List.getElem_toArray, List.getElem_cons_zero, List.getElem_cons_succ, List.setIfInBounds_toArray, List.set_cons_zero, List.set_cons_succ]
        refine wpAnyH_ready (rs := [8]) (by kernel_rfl) (by simp) ?_
        refine AllReadyH.cons rfl (fun K hK => ?_) AllReadyH.nil
        simp only [List.getElem_toArray, List.getElem_cons_zero, List.getElem_cons_succ]
        go_simp
        refine hK.out _ _ (by (try dsimp only); exact hHeld.setC _ _ (by show w4.heap.size ≤ wC.heap.size; omega)) (fun hHeld => ?_)
        clear hK K
        refine wpAnyH_take (i := 9) (v := ?v62) rfl (by kernel_rfl) (by kernel_rfl) (by kernel_rfl) (fun _ _ _ h => h) (Or.inl ⟨by rfl, ?hy62⟩) (by assumption) ?rest62
        case hy62 => (intro w hSw; (try dsimp only at hSw); go_simp; (try with_reducible rfl))
        simp only [Act.put, List.getElem_toArray, List.getElem_cons_zero, List.getElem_cons_succ, List.setIfInBounds_toArray, List.set_cons_zero, List.set_cons_succ]
        have hR : w4.heap.size ≤ wC.heap.size ∧ wC.heap.size < (wF.setCell ⟨wC.heap.size, 0, none⟩ (.slice va ma ca)).heap.size ∧ w4.heap.size ≤ BF ∧ wF.heap.size ≤ (wF.setCell ⟨wC.heap.size, 0, none⟩ (.slice va ma ca)).heap.size ∧ (wC.heap.size < BF ∨ wF.heap.size ≤ wC.heap.size) ∧ (wF.setCell ⟨wC.heap.size, 0, none⟩ (.slice va ma ca)).cell? ⟨wC.heap.size, 0, none⟩ = some (.slice va ma ca) ∧ TripsIn 44 (wF.setCell ⟨wC.heap.size, 0, none⟩ (.slice va ma ca)) BF wF.heap.size (.slice va ma ca) x ∧ Below w4.heap.size w4 (wF.setCell ⟨wC.heap.size, 0, none⟩ (.slice va ma ca)) := ⟨by omega, by first | omega | (simp; done) | (simp; omega), by omega, by first | omega | (simp; done) | (simp; omega), by omega, by go_simp, kF.setC _ _ (by show wC.heap.size < BF; omega), hHeld⟩
        refine wpAnyH_done (by kernel_rfl) ?_ _
        go_wp2_with fail
        go_meet
        case rel => exact ⟨_, _, _, _, _, _, rfl, rfl, hR⟩
    · skip
      simp only [List.getElem_toArray, List.getElem_cons_zero, List.getElem_cons_succ]
      go_simp
      refine hK.out _ _ (by (try dsimp only); first | exact hHeld.alloc hHeld.size _ | exact bdn (hHeld.alloc hHeld.size _) _ | go_grown) (fun hHeld => ?_)
      clear hK K
      obtain ⟨wz, hwz⟩ : ∃ z : World, z = (w4.alloc (.cells #[.slice none 0 0] 31)).drew := ⟨_, rfl⟩; (have hzc : wz.cell? ⟨w4.heap.size, 0, none⟩ = some (.slice none 0 0) := by (subst hwz; first | (simp; done) | (go_simp; done) | rfl)); (have hzf : wz.frozen? ⟨w4.heap.size, 0, none⟩ = false := by (subst hwz; first | (simp; done) | (go_simp; done) | rfl)); (have hzb : Below w4.heap.size w4 wz := by (subst hwz; go_grown)); (have hzz : w4.heap.size < wz.heap.size := by (subst hwz; simp)); rw [← hwz] at hHeld ⊢; clear hwz; have nz := hHeld.size
      refine wpAnyH_ready (rs := [2]) (by kernel_rfl) (by simp) ?_
      refine AllReadyH.cons rfl (fun K hK => ?_) AllReadyH.nil
      simp only [List.getElem_toArray, List.getElem_cons_zero, List.getElem_cons_succ]
      go_simp
      go_at_call 27; (refine (toClue_any _ _ _ _).mono ?_); rintro e wC ⟨rfl, hbC⟩; have hoC := hHeld.trans (hbC.mono hHeld.size); have nC := hoC.size; have nC2 := hbC.size; have hzc := cellB hbC hzc; have hzf := frozenB hbC (by omega) hzf
      go_wp2_with fail
      refine hK.out _ _ (by (try dsimp only); exact hoC) (fun hHeld => ?_)
      clear hK K
      refine wpAnyH_ready (rs := [3]) (by kernel_rfl) (by simp) ?_
      refine AllReadyH.cons rfl (fun K hK => ?_) AllReadyH.nil
      simp only [List.getElem_toArray, List.getElem_cons_zero, List.getElem_cons_succ]
      go_simp
      go_at_call 28; (refine (HI.out _ _ _ _ (HW.out.later (B4.trans (hHeld.mono B4.size))) (kc_4.keep (belowSame hHeld (by omega))) (by have := hHeld.size; omega)).mono ?_); rintro e wF ⟨vF, rfl, kF, hbF⟩; have hoF := hHeld.trans (hbF.mono hHeld.size); have nF := hoF.size; have hz9 := hHeld.size; have hzF := hbF.size; obtain ⟨va, ma, ca, hvF⟩ := own_formT kF.1; subst hvF; have hzc := cellB hbF hzc; have hzf := frozenB hbF (by omega) hzf; obtain ⟨BF, hBF, kF⟩ : ∃ BF, BF = _ ∧ TripsIn _ wF BF _ _ _ := ⟨_, rfl, kF⟩
      go_wp2_with fail
      refine hK.out _ _ (by (try dsimp only); exact hoF) (fun hHeld => ?_)
      clear hK K
      refine wpAnyH_take (i := 4) (v := ?v63) rfl (by kernel_rfl) (by kernel_rfl) (by kernel_rfl) (fun _ _ _ h => h) (Or.inl ⟨by rfl, ?hy63⟩) (by assumption) ?rest63
      case hy63 => (intro w hSw; (try dsimp only at hSw); go_simp; (try with_reducible rfl))
      simp only [Act.put, List.getElem_toArray, List.getElem_cons_zero, List.getElem_cons_succ, List.setIfInBounds_toArray, List.set_cons_zero, List.set_cons_succ]
      refine wpAnyH_take (i := 5) (v := ?v64) rfl (by kernel_rfl) (by kernel_rfl) (by kernel_rfl) (fun _ _ _ h => h) (Or.inl ⟨by rfl, ?hy64⟩) (by assumption) ?rest64
      case hy64 => (intro w hSw; (try dsimp only at hSw); go_simp; (try with_reducible rfl))
      simp only [Act.put, List.getElem_toArray, List.getElem_cons_zero, List.getElem_cons_succ, List.setIfInBounds_toArray, List.set_cons_zero, List.set_cons_succ]
      refine wpAnyH_take (i := 6) (v := ?v65) rfl (by kernel_rfl) (by kernel_rfl) (by kernel_rfl) (fun _ _ _ h => h) (Or.inl ⟨by rfl, ?hy65⟩) (by assumption) ?rest65
      case hy65 => (intro w hSw; (try dsimp only at hSw); go_simp; (try with_reducible rfl))
      simp only [Act.put, List.getElem_toArray, List.getElem_cons_zero, List.getElem_cons_succ, List.setIfInBounds_toArray, List.set_cons_zero, List.set_cons_succ]
      refine wpAnyH_ready (rs := [8]) (by kernel_rfl) (by simp) ?_
      refine AllReadyH.cons rfl (fun K hK => ?_) AllReadyH.nil
      simp only [List.getElem_toArray, List.getElem_cons_zero, List.getElem_cons_succ]
      go_simp
      refine hK.out _ _ (by (try dsimp only); exact hHeld.setC _ _ (by show w4.heap.size ≤ w4.heap.size; omega)) (fun hHeld => ?_)
      clear hK K
      refine wpAnyH_take (i := 9) (v := ?v66) rfl (by kernel_rfl) (by kernel_rfl) (by kernel_rfl) (fun _ _ _ h => h) (Or.inl ⟨by rfl, ?hy66⟩) (by assumption) ?rest66
      case hy66 => (intro w hSw; (try dsimp only at hSw); go_simp; (try with_reducible rfl))
      simp only [Act.put, List.getElem_toArray, List.getElem_cons_zero, List.getElem_cons_succ, List.setIfInBounds_toArray, List.set_cons_zero, List.set_cons_succ]
      have hR : w4.heap.size ≤ w4.heap.size ∧ w4.heap.size < (wF.setCell ⟨w4.heap.size, 0, none⟩ (.slice va ma ca)).heap.size ∧ w4.heap.size ≤ BF ∧ wF.heap.size ≤ (wF.setCell ⟨w4.heap.size, 0, none⟩ (.slice va ma ca)).heap.size ∧ (w4.heap.size < BF ∨ wF.heap.size ≤ w4.heap.size) ∧ (wF.setCell ⟨w4.heap.size, 0, none⟩ (.slice va ma ca)).cell? ⟨w4.heap.size, 0, none⟩ = some (.slice va ma ca) ∧ TripsIn 44 (wF.setCell ⟨w4.heap.size, 0, none⟩ (.slice va ma ca)) BF wF.heap.size (.slice va ma ca) x ∧ Below w4.heap.size w4 (wF.setCell ⟨w4.heap.size, 0, none⟩ (.slice va ma ca)) := ⟨by omega, by first | omega | (simp; done) | (simp; omega), by omega, by first | omega | (simp; done) | (simp; omega), by omega, by go_simp, kF.setC _ _ (by show w4.heap.size < BF; omega), hHeld⟩
      refine wpAnyH_done (by kernel_rfl) ?_ _
      go_wp2_with fail
      go_meet
      case rel => exact ⟨_, _, _, _, _, _, rfl, rfl, hR⟩
  obtain ⟨w5, rfl⟩ : ∃ z, z = wc := ⟨wc, rfl⟩
  obtain ⟨nbzg, azg, mzg, czg, Bzg_, Tzg_, hs0, hs1, qa5, qb5, qc5, qd5, qe5, zzg5, kg_5, hb5⟩ := hcut
  subst hs0 hs1
  have n5 := hb5.size
  have B5 := B4.trans (hb5.mono (by omega))
  have zp5 := cellB hb5 zp4
  have zkx5 := cellB hb5 zkx4
  have zky5 := cellB hb5 zky4
  have zkz5 := cellB hb5 zkz4
  have zzw5 := cellB hb5 zzw4
  have zc5 := cellB hb5 zc4
  clear zp4 zkx4 zky4 zkz4 zzw4 zc4
  have kw_5 := kw_4.keep (belowSame hb5 (by omega))
  have kc_5 := kc_4.keep (belowSame hb5 (by omega))
  go_wp2_with fail
  refine (eqPuzzle_in _ _ x _ _ _ _ _ _ kg_5 kw_5 (by first | omega | (simp; done) | (simp; omega)) (by first | omega | (simp; done) | (simp; omega))).mono ?_
  rintro e w6 ⟨rfl, hx6⟩
  have hb6 : Below w5.heap.size w5 w6 := Below.trans (by go_grown) (hx6.mono (by first | omega | (simp; done) | (simp; omega)))
  have n6 : w5.heap.size + 0 ≤ w6.heap.size := by have := hx6.size; (try simp at this); omega
  have B6 : Below w.heap.size w w6 := B5.trans (hb6.mono (by omega))
  have zp6 := cellB hb6 zp5
  have zkx6 := cellB hb6 zkx5
  have zky6 := cellB hb6 zky5
  have zkz6 := cellB hb6 zkz5
  have zzw6 := cellB hb6 zzw5
  have zc6 := cellB hb6 zc5
  have zzg6 := cellB hb6 zzg5
  clear zp5 zkx5 zky5 zkz5 zzw5 zc5 zzg5
  have kw_6 := kw_5.keep (belowSame hb6 (by omega))
  have kc_6 := kc_5.keep (belowSame hb6 (by omega))
  have kg_6 := kg_5.keep (belowSame hb6 (by omega))
  go_wp2
  go_region_held3 (fun w' => w'.cell? ⟨w.heap.size, 0, none⟩ = some (.slice a0 xs.length cap) ∧ w'.cell? ⟨w.heap.size + 1, 0, none⟩ = some (.int .i64 ck) ∧ w'.cell? ⟨w.heap.size + 1, 1, none⟩ = some (.int .i64 ca) ∧ w'.cell? ⟨w.heap.size + 1, 2, none⟩ = some (.int .i64 cb) ∧ w'.cell? ⟨nbzw, 0, none⟩ = some (.slice azw mzw czw) ∧ w'.cell? ⟨w3.heap.size, 0, none⟩ = some (.slice ac mc cc) ∧ w'.cell? ⟨nbzg, 0, none⟩ = some (.slice azg mzg czg)) (go_keep)
    (first | (go_at_call 16; refine (toPuzzle_any _ _ _ (HA.out.later (Below.trans B6 (by go_grown))) hn).mono ?_; rintro e w7 ⟨vd, rfl, kd_7, hx7⟩; (have kd_7 := kd_7.wider (B' := w6.heap.size + 0) (by first | exact Nat.le_refl _ | (simp; done) | (simp; omega)) (Nat.le_refl _)); (have hb7 : Below w6.heap.size w6 w7 := Below.trans (by go_grown) (hx7.mono (by first | omega | (simp; done) | (simp; omega)))); (have n7 : w6.heap.size + 0 ≤ w7.heap.size := by have := hx7.size; (try simp at this); omega); (have B7 : Below w.heap.size w w7 := B6.trans (hb7.mono (by omega))); (have zp7 := cellB hb7 zp6); (have zkx7 := cellB hb7 zkx6); (have zky7 := cellB hb7 zky6); (have zkz7 := cellB hb7 zkz6); (have zzw7 := cellB hb7 zzw6); (have zc7 := cellB hb7 zc6); (have zzg7 := cellB hb7 zzg6); (have kw_7 := kw_6.keep (belowSame hb7 (by omega))); (have kc_7 := kc_6.keep (belowSame hb7 (by omega))); (have kg_7 := kg_6.keep (belowSame hb7 (by omega))); (obtain ⟨ad, md, cd, hvd⟩ := own_formT kd_7.1); subst hvd) | (go_at_call 19; refine (eqPuzzle_in _ _ _ _ _ _ _ _ _ (kc_7.keep (belowSame (by go_grown) (by first | omega | (simp; done) | (simp; omega)))) (kd_7.keep (belowSame (by go_grown) (by first | omega | (simp; done) | (simp; omega)))) (by first | omega | (simp; done) | (simp; omega)) (by first | omega | (simp; done) | (simp; omega))).mono ?_; rintro e w8 ⟨rfl, hx8⟩; (have hb8 : Below w7.heap.size w7 w8 := Below.trans (by go_grown) (hx8.mono (by first | omega | (simp; done) | (simp; omega)))); (have n8 : w7.heap.size + 0 ≤ w8.heap.size := by have := hx8.size; (try simp at this); omega); (have B8 : Below w.heap.size w w8 := B7.trans (hb8.mono (by omega))); (have zp8 := cellB hb8 zp7); (have zkx8 := cellB hb8 zkx7); (have zky8 := cellB hb8 zky7); (have zkz8 := cellB hb8 zkz7); (have zzw8 := cellB hb8 zzw7); (have zc8 := cellB hb8 zc7); (have zzg8 := cellB hb8 zzg7); (have kw_8 := kw_7.keep (belowSame hb8 (by omega))); (have kc_8 := kc_7.keep (belowSame hb8 (by omega))); (have kg_8 := kg_7.keep (belowSame hb8 (by omega))); (have kd_8 := kd_7.keep (belowSame hb8 (by omega)))))
  go_wp2_with fail
  refine (markPuzzle_in _ _ 1 _ _ _ _ kc_8 (by omega) (by omega) (by omega) (by omega)).mono ?_
  rintro e w9 ⟨rfl, kc_9, o9⟩
  have n9 := o9.size
  have B9 := B8.trans (o9.below (C := w.heap.size) (by omega) (by omega))
  have zp9 := o9.cell (by omega) zp8
  have zkx9 := o9.cell (by omega) zkx8
  have zky9 := o9.cell (by omega) zky8
  have zkz9 := o9.cell (by omega) zkz8
  have zzw9 := o9.cell (by omega) zzw8
  have zc9 := o9.cell (by omega) zc8
  have zzg9 := o9.cell (by omega) zzg8
  clear zp8 zkx8 zky8 zkz8 zzw8 zc8 zzg8
  have kw_9 := kw_8.keep (o9.same_in (by omega) (by omega))
  have kg_9 := kg_8.keep (o9.same_in (by omega) (by omega))
  have kd_9 := kd_8.keep (o9.same_in (by omega) (by omega))
  go_wp2_with fail
  refine (eqPuzzle_in _ _ x _ _ _ _ _ _ kg_9 kw_9 (by first | omega | (simp; done) | (simp; omega)) (by first | omega | (simp; done) | (simp; omega))).mono ?_
  rintro e w10 ⟨rfl, hx10⟩
  have hb10 : Below w9.heap.size w9 w10 := Below.trans (by go_grown) (hx10.mono (by first | omega | (simp; done) | (simp; omega)))
  have n10 : w9.heap.size + 0 ≤ w10.heap.size := by have := hx10.size; (try simp at this); omega
  have B10 : Below w.heap.size w w10 := B9.trans (hb10.mono (by omega))
  have zp10 := cellB hb10 zp9
  have zkx10 := cellB hb10 zkx9
  have zky10 := cellB hb10 zky9
  have zkz10 := cellB hb10 zkz9
  have zzw10 := cellB hb10 zzw9
  have zc10 := cellB hb10 zc9
  have zzg10 := cellB hb10 zzg9
  clear zp9 zkx9 zky9 zkz9 zzw9 zc9 zzg9
  have kw_10 := kw_9.keep (belowSame hb10 (by omega))
  have kc_10 := kc_9.keep (belowSame hb10 (by omega))
  have kg_10 := kg_9.keep (belowSame hb10 (by omega))
  have kd_10 := kd_9.keep (belowSame hb10 (by omega))
  go_wp2_with fail
  refine (markPuzzle_in _ x 1 _ _ _ _ kg_10 (by omega) (by omega) (by omega) (by omega)).mono ?_
  rintro e w11 ⟨rfl, kg_11, o11⟩
  have n11 := o11.size
  have B11 := B10.trans (o11.below (C := w.heap.size) (by omega) (by omega))
  have zp11 := o11.cell (by omega) zp10
  have zkx11 := o11.cell (by omega) zkx10
  have zky11 := o11.cell (by omega) zky10
  have zkz11 := o11.cell (by omega) zkz10
  have zzw11 := o11.cell (by omega) zzw10
  have zc11 := o11.cell (by omega) zc10
  have zzg11 := o11.cell (by omega) zzg10
  clear zp10 zkx10 zky10 zkz10 zzw10 zc10 zzg10
  have kw_11 := kw_10.keep (o11.same_in (by omega) (by omega))
  have kc_11 := kc_10.keep (o11.same_in (by omega) (by omega))
  have kd_11 := kd_10.keep (o11.same_in (by omega) (by omega))
  go_wp2_with fail
  refine (heldPuzzle_in _ 1 x.length _ _ _ _ kg_11 (by omega) (by omega) (by omega) (by omega)).mono ?_
  rintro e w12 ⟨rfl, hx12⟩
  have hb12 : Below w11.heap.size w11 w12 := Below.trans (by go_grown) (hx12.mono (by first | omega | (simp; done) | (simp; omega)))
  have n12 : w11.heap.size + 0 ≤ w12.heap.size := by have := hx12.size; (try simp at this); omega
  have B12 : Below w.heap.size w w12 := B11.trans (hb12.mono (by omega))
  have zp12 := cellB hb12 zp11
  have zkx12 := cellB hb12 zkx11
  have zky12 := cellB hb12 zky11
  have zkz12 := cellB hb12 zkz11
  have zzw12 := cellB hb12 zzw11
  have zc12 := cellB hb12 zc11
  have zzg12 := cellB hb12 zzg11
  clear zp11 zkx11 zky11 zkz11 zzw11 zc11 zzg11
  have kw_12 := kw_11.keep (belowSame hb12 (by omega))
  have kc_12 := kc_11.keep (belowSame hb12 (by omega))
  have kg_12 := kg_11.keep (belowSame hb12 (by omega))
  have kd_12 := kd_11.keep (belowSame hb12 (by omega))
  go_upto_region 24 with fail
  go_cut [14, 15] from 16 (fun s0 s1 wx => ∃ (nb : Nat) (va : Option Addr) (ma ca B T : Nat), s0 = .pointer (some ⟨nb, 0, none⟩) ∧ s1 = .bool b ∧ w12.heap.size ≤ nb ∧ nb < (wx).heap.size ∧ w12.heap.size ≤ B ∧ T ≤ (wx).heap.size ∧ (nb < B ∨ T ≤ nb) ∧ (wx).cell? ⟨nb, 0, none⟩ = some (.slice va ma ca) ∧ TripsIn 44 (wx) B T (.slice va ma ca) x ∧ Below w12.heap.size w12 (wx))
  case first =>
    refine wp_region_held_drew (S := fun w' => Below w12.heap.size w12 w') (by kernel_rfl) (by (try dsimp only); first | exact Below.refl _ _ | go_grown) (fun hHeld => ?_)
    refine wpAnyH_take (i := 0) (v := ?v67) rfl (by kernel_rfl) (by kernel_rfl) (by kernel_rfl) (fun _ _ _ h => h) (Or.inl ⟨by rfl, ?hy67⟩) (by assumption) ?rest67
    case hy67 => (intro w hSw; (try dsimp only at hSw); have zq0 := cellB hSw zp12; go_simp; (try with_reducible rfl))
    simp only [Act.put, List.getElem_toArray, List.getElem_cons_zero, List.setIfInBounds_toArray, List.set_cons_zero, List.set_cons_succ]
    refine wpAnyH_take (i := 2) (v := ?v68) rfl (by kernel_rfl) (by kernel_rfl) (by kernel_rfl) (fun _ _ _ h => h) (Or.inl ⟨by rfl, ?hy68⟩) (by assumption) ?rest68
    case hy68 => (intro w hSw; (try dsimp only at hSw); have zq0 := cellB hSw zkx12; have zq1 := cellB hSw zky12; have zq2 := cellB hSw zkz12; go_simp; (try with_reducible rfl))
    simp only [Act.put, List.getElem_toArray, List.getElem_cons_zero, List.getElem_cons_succ, List.setIfInBounds_toArray, List.set_cons_zero, List.set_cons_succ]
    refine wpAnyH_ready (rs := [1, 8]) (by kernel_rfl) (by simp) ?_
    refine AllReadyH.cons rfl (fun K hK => ?_) (AllReadyH.cons rfl (fun K hK => ?_) AllReadyH.nil)
    · skip
      simp only [List.getElem_toArray, List.getElem_cons_zero, List.getElem_cons_succ]
      go_simp
      go_at_call 16; (refine (toPuzzle_any _ _ _ (HA.out.later (B12.trans (hHeld.mono B12.size))) hn).mono ?_); rintro e wP ⟨vP, rfl, kP, hbP⟩; have hoP := hHeld.trans (hbP.mono hHeld.size); have nP := hoP.size; have nP2 := hbP.size; obtain ⟨aP, mP, cP, hvP⟩ := own_formT kP.1; subst hvP; have kP := kP.wider (B' := w12.heap.size) hHeld.size (Nat.le_refl _)
      go_wp2_with fail
      refine hK.out _ _ (by (try dsimp only); exact hoP) (fun hHeld => ?_)
      clear hK K
      refine wpAnyH_ready (rs := [3, 8]) (by kernel_rfl) (by simp) ?_
      refine AllReadyH.cons rfl (fun K hK => ?_) (AllReadyH.cons rfl (fun K hK => ?_) AllReadyH.nil)
      · skip
        simp only [List.getElem_toArray, List.getElem_cons_zero, List.getElem_cons_succ]
        go_simp
        go_at_call 27; (refine (toClue_any _ _ _ _).mono ?_); rintro e wC ⟨rfl, hbC⟩; have hoC := hHeld.trans (hbC.mono hHeld.size); have nC := hoC.size; have nC2 := hbC.size; have kP := kP.keep (belowSame hbC (by omega))
        go_wp2_with fail
        refine hK.out _ _ (by (try dsimp only); exact hoC) (fun hHeld => ?_)
        clear hK K
        refine wpAnyH_ready (rs := [4, 8]) (by kernel_rfl) (by simp) ?_
        refine AllReadyH.cons rfl (fun K hK => ?_) (AllReadyH.cons rfl (fun K hK => ?_) AllReadyH.nil)
        · skip
          simp only [List.getElem_toArray, List.getElem_cons_zero, List.getElem_cons_succ]
          go_simp
          go_at_call 28; (refine (HI.out _ _ _ _ (HW.out.later (B12.trans (hHeld.mono B12.size))) kP (by have := hHeld.size; omega)).mono ?_); rintro e wF ⟨vF, rfl, kF, hbF⟩; have hoF := hHeld.trans (hbF.mono hHeld.size); have nF := hoF.size; have hz9 := hHeld.size; have hzF := hbF.size; obtain ⟨va, ma, ca, hvF⟩ := own_formT kF.1; subst hvF; obtain ⟨BF, hBF, kF⟩ : ∃ BF, BF = _ ∧ TripsIn _ wF BF _ _ _ := ⟨_, rfl, kF⟩
          go_wp2_with fail
          refine hK.out _ _ (by (try dsimp only); exact hoF) (fun hHeld => ?_)
          clear hK K
          refine wpAnyH_take (i := 5) (v := ?v69) rfl (by kernel_rfl) (by kernel_rfl) (by kernel_rfl) (fun _ _ _ h => h) (Or.inl ⟨by rfl, ?hy69⟩) (by assumption) ?rest69
          case hy69 => (intro w hSw; (try dsimp only at hSw); go_simp; (try with_reducible rfl))
          simp only [Act.put, List.getElem_toArray, List.getElem_cons_zero, List.getElem_cons_succ, List.setIfInBounds_toArray, List.set_cons_zero, List.set_cons_succ]
          refine wpAnyH_take (i := 6) (v := ?v70) rfl (by kernel_rfl) (by kernel_rfl) (by kernel_rfl) (fun _ _ _ h => h) (Or.inl ⟨by rfl, ?hy70⟩) (by assumption) ?rest70
          case hy70 => (intro w hSw; (try dsimp only at hSw); go_simp; (try with_reducible rfl))
          simp only [Act.put, List.getElem_toArray, List.getElem_cons_zero, List.getElem_cons_succ, List.setIfInBounds_toArray, List.set_cons_zero, List.set_cons_succ]
          refine wpAnyH_take (i := 7) (v := ?v71) rfl (by kernel_rfl) (by kernel_rfl) (by kernel_rfl) (fun _ _ _ h => h) (Or.inl ⟨by rfl, ?hy71⟩) (by assumption) ?rest71
          case hy71 => (intro w hSw; (try dsimp only at hSw); go_simp; (try with_reducible rfl))
          simp only [Act.put, List.getElem_toArray, List.getElem_cons_zero, List.getElem_cons_succ, List.setIfInBounds_toArray, List.set_cons_zero, List.set_cons_succ]
          refine wpAnyH_ready (rs := [8]) (by kernel_rfl) (by simp) ?_
          refine AllReadyH.cons rfl (fun K hK => ?_) AllReadyH.nil
          simp only [List.getElem_toArray, List.getElem_cons_zero, List.getElem_cons_succ]
          go_simp
          refine hK.out _ _ (by (try dsimp only); first | exact hHeld.alloc hHeld.size _ | exact bdn (hHeld.alloc hHeld.size _) _ | go_grown) (fun hHeld => ?_)
          clear hK K
          obtain ⟨wz, hwz⟩ : ∃ z : World, z = (wF.alloc (.cells #[.slice none 0 0] 31)) := ⟨_, rfl⟩; (have hzc : wz.cell? ⟨wF.heap.size, 0, none⟩ = some (.slice none 0 0) := by (subst hwz; first | (simp; done) | (go_simp; done) | rfl)); (have hzf : wz.frozen? ⟨wF.heap.size, 0, none⟩ = false := by (subst hwz; first | (simp; done) | (go_simp; done) | rfl)); (have hzb : Below wF.heap.size wF wz := by (subst hwz; go_grown)); (have hzz : wF.heap.size < wz.heap.size := by (subst hwz; simp)); rw [← hwz] at hHeld ⊢; clear hwz; have nz := hHeld.size; have kF := kF.keep (belowSame hzb (Nat.le_refl _))
          refine wpAnyH_ready (rs := [9]) (by kernel_rfl) (by simp) ?_
          refine AllReadyH.cons rfl (fun K hK => ?_) AllReadyH.nil
          simp only [List.getElem_toArray, List.getElem_cons_zero, List.getElem_cons_succ]
          go_simp
          refine hK.out _ _ (by (try dsimp only); exact hHeld.setC _ _ (by show w12.heap.size ≤ wF.heap.size; omega)) (fun hHeld => ?_)
          clear hK K
          refine wpAnyH_take (i := 10) (v := ?v72) rfl (by kernel_rfl) (by kernel_rfl) (by kernel_rfl) (fun _ _ _ h => h) (Or.inl ⟨by rfl, ?hy72⟩) (by assumption) ?rest72
          case hy72 => (intro w hSw; (try dsimp only at hSw); go_simp; (try with_reducible rfl))
          simp only [Act.put, List.getElem_toArray, List.getElem_cons_zero, List.getElem_cons_succ, List.setIfInBounds_toArray, List.set_cons_zero, List.set_cons_succ]
          have hR : w12.heap.size ≤ wF.heap.size ∧ wF.heap.size < (wz.setCell ⟨wF.heap.size, 0, none⟩ (.slice va ma ca)).heap.size ∧ w12.heap.size ≤ BF ∧ wF.heap.size ≤ (wz.setCell ⟨wF.heap.size, 0, none⟩ (.slice va ma ca)).heap.size ∧ (wF.heap.size < BF ∨ wF.heap.size ≤ wF.heap.size) ∧ (wz.setCell ⟨wF.heap.size, 0, none⟩ (.slice va ma ca)).cell? ⟨wF.heap.size, 0, none⟩ = some (.slice va ma ca) ∧ TripsIn 44 (wz.setCell ⟨wF.heap.size, 0, none⟩ (.slice va ma ca)) BF wF.heap.size (.slice va ma ca) x ∧ Below w12.heap.size w12 (wz.setCell ⟨wF.heap.size, 0, none⟩ (.slice va ma ca)) := ⟨by omega, by first | omega | (simp; done) | (simp; omega), by omega, by first | omega | (simp; done) | (simp; omega), by omega, by go_simp, kF.keep (fun k hk1 hk2 => setCell_other _ _ _ (by show wF.heap.size ≠ k; omega)), hHeld⟩
          refine wpAnyH_done (by kernel_rfl) ?_ _
          go_wp2_with fail
          go_meet
          case rel => exact ⟨_, _, _, _, _, _, rfl, rfl, hR⟩
        · skip
          simp only [List.getElem_toArray, List.getElem_cons_zero, List.getElem_cons_succ]
          go_simp
          refine hK.out _ _ (by (try dsimp only); first | exact hHeld.alloc hHeld.size _ | exact bdn (hHeld.alloc hHeld.size _) _ | go_grown) (fun hHeld => ?_)
          clear hK K
          obtain ⟨wz, hwz⟩ : ∃ z : World, z = (wC.alloc (.cells #[.slice none 0 0] 31)) := ⟨_, rfl⟩; (have hzc : wz.cell? ⟨wC.heap.size, 0, none⟩ = some (.slice none 0 0) := by (subst hwz; first | (simp; done) | (go_simp; done) | rfl)); (have hzf : wz.frozen? ⟨wC.heap.size, 0, none⟩ = false := by (subst hwz; first | (simp; done) | (go_simp; done) | rfl)); (have hzb : Below wC.heap.size wC wz := by (subst hwz; go_grown)); (have hzz : wC.heap.size < wz.heap.size := by (subst hwz; simp)); rw [← hwz] at hHeld ⊢; clear hwz; have nz := hHeld.size; have kP := kP.keep (belowSame hzb (by omega))
          refine wpAnyH_ready (rs := [4]) (by kernel_rfl) (by simp) ?_
          refine AllReadyH.cons rfl (fun K hK => ?_) AllReadyH.nil
          simp only [List.getElem_toArray, List.getElem_cons_zero, List.getElem_cons_succ]
          go_simp
          go_at_call 28; (refine (HI.out _ _ _ _ (HW.out.later (B12.trans (hHeld.mono B12.size))) kP (by have := hHeld.size; omega)).mono ?_); rintro e wF ⟨vF, rfl, kF, hbF⟩; have hoF := hHeld.trans (hbF.mono hHeld.size); have nF := hoF.size; have hz9 := hHeld.size; have hzF := hbF.size; obtain ⟨va, ma, ca, hvF⟩ := own_formT kF.1; subst hvF; have hzc := cellB hbF hzc; have hzf := frozenB hbF (by omega) hzf; obtain ⟨BF, hBF, kF⟩ : ∃ BF, BF = _ ∧ TripsIn _ wF BF _ _ _ := ⟨_, rfl, kF⟩
          go_wp2_with fail
          refine hK.out _ _ (by (try dsimp only); exact hoF) (fun hHeld => ?_)
          clear hK K
          refine wpAnyH_take (i := 5) (v := ?v73) rfl (by kernel_rfl) (by kernel_rfl) (by kernel_rfl) (fun _ _ _ h => h) (Or.inl ⟨by rfl, ?hy73⟩) (by assumption) ?rest73
          case hy73 => (intro w hSw; (try dsimp only at hSw); go_simp; (try with_reducible rfl))
          simp only [Act.put, List.getElem_toArray, List.getElem_cons_zero, List.getElem_cons_succ, List.setIfInBounds_toArray, List.set_cons_zero, List.set_cons_succ]
          refine wpAnyH_take (i := 6) (v := ?v74) rfl (by kernel_rfl) (by kernel_rfl) (by kernel_rfl) (fun _ _ _ h => h) (Or.inl ⟨by rfl, ?hy74⟩) (by assumption) ?rest74
          case hy74 => (intro w hSw; (try dsimp only at hSw); go_simp; (try with_reducible rfl))
          simp only [Act.put, List.getElem_toArray, List.getElem_cons_zero, List.getElem_cons_succ, List.setIfInBounds_toArray, List.set_cons_zero, List.set_cons_succ]
          refine wpAnyH_take (i := 7) (v := ?v75) rfl (by kernel_rfl) (by kernel_rfl) (by kernel_rfl) (fun _ _ _ h => h) (Or.inl ⟨by rfl, ?hy75⟩) (by assumption) ?rest75
          case hy75 => (intro w hSw; (try dsimp only at hSw); go_simp; (try with_reducible rfl))
          simp only [Act.put, List.getElem_toArray, List.getElem_cons_zero, List.getElem_cons_succ, List.setIfInBounds_toArray, List.set_cons_zero, List.set_cons_succ]
          refine wpAnyH_ready (rs := [9]) (by kernel_rfl) (by simp) ?_
          refine AllReadyH.cons rfl (fun K hK => ?_) AllReadyH.nil
          simp only [List.getElem_toArray, List.getElem_cons_zero, List.getElem_cons_succ]
          go_simp
          refine hK.out _ _ (by (try dsimp only); exact hHeld.setC _ _ (by show w12.heap.size ≤ wC.heap.size; omega)) (fun hHeld => ?_)
          clear hK K
          refine wpAnyH_take (i := 10) (v := ?v76) rfl (by kernel_rfl) (by kernel_rfl) (by kernel_rfl) (fun _ _ _ h => h) (Or.inl ⟨by rfl, ?hy76⟩) (by assumption) ?rest76
          case hy76 => (intro w hSw; (try dsimp only at hSw); go_simp; (try with_reducible rfl))
          simp only [Act.put, List.getElem_toArray, List.getElem_cons_zero, List.getElem_cons_succ, List.setIfInBounds_toArray, List.set_cons_zero, List.set_cons_succ]
          have hR : w12.heap.size ≤ wC.heap.size ∧ wC.heap.size < (wF.setCell ⟨wC.heap.size, 0, none⟩ (.slice va ma ca)).heap.size ∧ w12.heap.size ≤ BF ∧ wF.heap.size ≤ (wF.setCell ⟨wC.heap.size, 0, none⟩ (.slice va ma ca)).heap.size ∧ (wC.heap.size < BF ∨ wF.heap.size ≤ wC.heap.size) ∧ (wF.setCell ⟨wC.heap.size, 0, none⟩ (.slice va ma ca)).cell? ⟨wC.heap.size, 0, none⟩ = some (.slice va ma ca) ∧ TripsIn 44 (wF.setCell ⟨wC.heap.size, 0, none⟩ (.slice va ma ca)) BF wF.heap.size (.slice va ma ca) x ∧ Below w12.heap.size w12 (wF.setCell ⟨wC.heap.size, 0, none⟩ (.slice va ma ca)) := ⟨by omega, by first | omega | (simp; done) | (simp; omega), by omega, by first | omega | (simp; done) | (simp; omega), by omega, by go_simp, kF.setC _ _ (by show wC.heap.size < BF; omega), hHeld⟩
          refine wpAnyH_done (by kernel_rfl) ?_ _
          go_wp2_with fail
          go_meet
          case rel => exact ⟨_, _, _, _, _, _, rfl, rfl, hR⟩
      · skip
        simp only [List.getElem_toArray, List.getElem_cons_zero, List.getElem_cons_succ]
        go_simp
        refine hK.out _ _ (by (try dsimp only); first | exact hHeld.alloc hHeld.size _ | exact bdn (hHeld.alloc hHeld.size _) _ | go_grown) (fun hHeld => ?_)
        clear hK K
        obtain ⟨wz, hwz⟩ : ∃ z : World, z = (wP.alloc (.cells #[.slice none 0 0] 31)) := ⟨_, rfl⟩; (have hzc : wz.cell? ⟨wP.heap.size, 0, none⟩ = some (.slice none 0 0) := by (subst hwz; first | (simp; done) | (go_simp; done) | rfl)); (have hzf : wz.frozen? ⟨wP.heap.size, 0, none⟩ = false := by (subst hwz; first | (simp; done) | (go_simp; done) | rfl)); (have hzb : Below wP.heap.size wP wz := by (subst hwz; go_grown)); (have hzz : wP.heap.size < wz.heap.size := by (subst hwz; simp)); rw [← hwz] at hHeld ⊢; clear hwz; have nz := hHeld.size; have kP := kP.keep (belowSame hzb (by omega))
        refine wpAnyH_ready (rs := [3]) (by kernel_rfl) (by simp) ?_
        refine AllReadyH.cons rfl (fun K hK => ?_) AllReadyH.nil
        simp only [List.getElem_toArray, List.getElem_cons_zero, List.getElem_cons_succ]
        go_simp
        go_at_call 27; (refine (toClue_any _ _ _ _).mono ?_); rintro e wC ⟨rfl, hbC⟩; have hoC := hHeld.trans (hbC.mono hHeld.size); have nC := hoC.size; have nC2 := hbC.size; have kP := kP.keep (belowSame hbC (by omega)); have hzc := cellB hbC hzc; have hzf := frozenB hbC (by omega) hzf
        go_wp2_with fail
        refine hK.out _ _ (by (try dsimp only); exact hoC) (fun hHeld => ?_)
        clear hK K
        refine wpAnyH_ready (rs := [4]) (by kernel_rfl) (by simp) ?_
        refine AllReadyH.cons rfl (fun K hK => ?_) AllReadyH.nil
        simp only [List.getElem_toArray, List.getElem_cons_zero, List.getElem_cons_succ]
        go_simp
        go_at_call 28; (refine (HI.out _ _ _ _ (HW.out.later (B12.trans (hHeld.mono B12.size))) kP (by have := hHeld.size; omega)).mono ?_); rintro e wF ⟨vF, rfl, kF, hbF⟩; have hoF := hHeld.trans (hbF.mono hHeld.size); have nF := hoF.size; have hz9 := hHeld.size; have hzF := hbF.size; obtain ⟨va, ma, ca, hvF⟩ := own_formT kF.1; subst hvF; have hzc := cellB hbF hzc; have hzf := frozenB hbF (by omega) hzf; obtain ⟨BF, hBF, kF⟩ : ∃ BF, BF = _ ∧ TripsIn _ wF BF _ _ _ := ⟨_, rfl, kF⟩
        go_wp2_with fail
        refine hK.out _ _ (by (try dsimp only); exact hoF) (fun hHeld => ?_)
        clear hK K
        refine wpAnyH_take (i := 5) (v := ?v77) rfl (by kernel_rfl) (by kernel_rfl) (by kernel_rfl) (fun _ _ _ h => h) (Or.inl ⟨by rfl, ?hy77⟩) (by assumption) ?rest77
        case hy77 => (intro w hSw; (try dsimp only at hSw); go_simp; (try with_reducible rfl))
        simp only [Act.put, List.getElem_toArray, List.getElem_cons_zero, List.getElem_cons_succ, List.setIfInBounds_toArray, List.set_cons_zero, List.set_cons_succ]
        refine wpAnyH_take (i := 6) (v := ?v78) rfl (by kernel_rfl) (by kernel_rfl) (by kernel_rfl) (fun _ _ _ h => h) (Or.inl ⟨by rfl, ?hy78⟩) (by assumption) ?rest78
        case hy78 => (intro w hSw; (try dsimp only at hSw); go_simp; (try with_reducible rfl))
        simp only [Act.put, List.getElem_toArray, List.getElem_cons_zero, List.getElem_cons_succ, List.setIfInBounds_toArray, List.set_cons_zero, List.set_cons_succ]
        refine wpAnyH_take (i := 7) (v := ?v79) rfl (by kernel_rfl) (by kernel_rfl) (by kernel_rfl) (fun _ _ _ h => h) (Or.inl ⟨by rfl, ?hy79⟩) (by assumption) ?rest79
        case hy79 => (intro w hSw; (try dsimp only at hSw); go_simp; (try with_reducible rfl))
        simp only [Act.put, List.getElem_toArray, List.getElem_cons_zero, List.getElem_cons_succ, List.setIfInBounds_toArray, List.set_cons_zero, List.set_cons_succ]
        refine wpAnyH_ready (rs := [9]) (by kernel_rfl) (by simp) ?_
        refine AllReadyH.cons rfl (fun K hK => ?_) AllReadyH.nil
        simp only [List.getElem_toArray, List.getElem_cons_zero, List.getElem_cons_succ]
        go_simp
        refine hK.out _ _ (by (try dsimp only); exact hHeld.setC _ _ (by show w12.heap.size ≤ wP.heap.size; omega)) (fun hHeld => ?_)
        clear hK K
        refine wpAnyH_take (i := 10) (v := ?v80) rfl (by kernel_rfl) (by kernel_rfl) (by kernel_rfl) (fun _ _ _ h => h) (Or.inl ⟨by rfl, ?hy80⟩) (by assumption) ?rest80
        case hy80 => (intro w hSw; (try dsimp only at hSw); go_simp; (try with_reducible rfl))
        simp only [Act.put, List.getElem_toArray, List.getElem_cons_zero, List.getElem_cons_succ, List.setIfInBounds_toArray, List.set_cons_zero, List.set_cons_succ]
        have hR : w12.heap.size ≤ wP.heap.size ∧ wP.heap.size < (wF.setCell ⟨wP.heap.size, 0, none⟩ (.slice va ma ca)).heap.size ∧ w12.heap.size ≤ BF ∧ wF.heap.size ≤ (wF.setCell ⟨wP.heap.size, 0, none⟩ (.slice va ma ca)).heap.size ∧ (wP.heap.size < BF ∨ wF.heap.size ≤ wP.heap.size) ∧ (wF.setCell ⟨wP.heap.size, 0, none⟩ (.slice va ma ca)).cell? ⟨wP.heap.size, 0, none⟩ = some (.slice va ma ca) ∧ TripsIn 44 (wF.setCell ⟨wP.heap.size, 0, none⟩ (.slice va ma ca)) BF wF.heap.size (.slice va ma ca) x ∧ Below w12.heap.size w12 (wF.setCell ⟨wP.heap.size, 0, none⟩ (.slice va ma ca)) := ⟨by omega, by first | omega | (simp; done) | (simp; omega), by omega, by first | omega | (simp; done) | (simp; omega), by omega, by go_simp, kF.setC _ _ (by show wP.heap.size < BF; omega), hHeld⟩
        refine wpAnyH_done (by kernel_rfl) ?_ _
        go_wp2_with fail
        go_meet
        case rel => exact ⟨_, _, _, _, _, _, rfl, rfl, hR⟩
    · skip
      simp only [List.getElem_toArray, List.getElem_cons_zero, List.getElem_cons_succ]
      go_simp
      refine hK.out _ _ (by (try dsimp only); first | exact hHeld.alloc hHeld.size _ | exact bdn (hHeld.alloc hHeld.size _) _ | go_grown) (fun hHeld => ?_)
      clear hK K
      obtain ⟨wz, hwz⟩ : ∃ z : World, z = (w12.alloc (.cells #[.slice none 0 0] 31)).drew := ⟨_, rfl⟩; (have hzc : wz.cell? ⟨w12.heap.size, 0, none⟩ = some (.slice none 0 0) := by (subst hwz; first | (simp; done) | (go_simp; done) | rfl)); (have hzf : wz.frozen? ⟨w12.heap.size, 0, none⟩ = false := by (subst hwz; first | (simp; done) | (go_simp; done) | rfl)); (have hzb : Below w12.heap.size w12 wz := by (subst hwz; go_grown)); (have hzz : w12.heap.size < wz.heap.size := by (subst hwz; simp)); rw [← hwz] at hHeld ⊢; clear hwz; have nz := hHeld.size
      refine wpAnyH_ready (rs := [1]) (by kernel_rfl) (by simp) ?_
      refine AllReadyH.cons rfl (fun K hK => ?_) AllReadyH.nil
      simp only [List.getElem_toArray, List.getElem_cons_zero, List.getElem_cons_succ]
      go_simp
      go_at_call 16; (refine (toPuzzle_any _ _ _ (HA.out.later (B12.trans (hHeld.mono B12.size))) hn).mono ?_); rintro e wP ⟨vP, rfl, kP, hbP⟩; have hoP := hHeld.trans (hbP.mono hHeld.size); have nP := hoP.size; have nP2 := hbP.size; obtain ⟨aP, mP, cP, hvP⟩ := own_formT kP.1; subst hvP; have kP := kP.wider (B' := w12.heap.size) hHeld.size (Nat.le_refl _); have hzc := cellB hbP hzc; have hzf := frozenB hbP (by omega) hzf
      go_wp2_with fail
      refine hK.out _ _ (by (try dsimp only); exact hoP) (fun hHeld => ?_)
      clear hK K
      refine wpAnyH_ready (rs := [3]) (by kernel_rfl) (by simp) ?_
      refine AllReadyH.cons rfl (fun K hK => ?_) AllReadyH.nil
      simp only [List.getElem_toArray, List.getElem_cons_zero, List.getElem_cons_succ]
      go_simp
      go_at_call 27; (refine (toClue_any _ _ _ _).mono ?_); rintro e wC ⟨rfl, hbC⟩; have hoC := hHeld.trans (hbC.mono hHeld.size); have nC := hoC.size; have nC2 := hbC.size; have kP := kP.keep (belowSame hbC (by omega)); have hzc := cellB hbC hzc; have hzf := frozenB hbC (by omega) hzf
      go_wp2_with fail
      refine hK.out _ _ (by (try dsimp only); exact hoC) (fun hHeld => ?_)
      clear hK K
      refine wpAnyH_ready (rs := [4]) (by kernel_rfl) (by simp) ?_
      refine AllReadyH.cons rfl (fun K hK => ?_) AllReadyH.nil
      simp only [List.getElem_toArray, List.getElem_cons_zero, List.getElem_cons_succ]
      go_simp
      go_at_call 28; (refine (HI.out _ _ _ _ (HW.out.later (B12.trans (hHeld.mono B12.size))) kP (by have := hHeld.size; omega)).mono ?_); rintro e wF ⟨vF, rfl, kF, hbF⟩; have hoF := hHeld.trans (hbF.mono hHeld.size); have nF := hoF.size; have hz9 := hHeld.size; have hzF := hbF.size; obtain ⟨va, ma, ca, hvF⟩ := own_formT kF.1; subst hvF; have hzc := cellB hbF hzc; have hzf := frozenB hbF (by omega) hzf; obtain ⟨BF, hBF, kF⟩ : ∃ BF, BF = _ ∧ TripsIn _ wF BF _ _ _ := ⟨_, rfl, kF⟩
      go_wp2_with fail
      refine hK.out _ _ (by (try dsimp only); exact hoF) (fun hHeld => ?_)
      clear hK K
      refine wpAnyH_take (i := 5) (v := ?v81) rfl (by kernel_rfl) (by kernel_rfl) (by kernel_rfl) (fun _ _ _ h => h) (Or.inl ⟨by rfl, ?hy81⟩) (by assumption) ?rest81
      case hy81 => (intro w hSw; (try dsimp only at hSw); go_simp; (try with_reducible rfl))
      simp only [Act.put, List.getElem_toArray, List.getElem_cons_zero, List.getElem_cons_succ, List.setIfInBounds_toArray, List.set_cons_zero, List.set_cons_succ]
      refine wpAnyH_take (i := 6) (v := ?v82) rfl (by kernel_rfl) (by kernel_rfl) (by kernel_rfl) (fun _ _ _ h => h) (Or.inl ⟨by rfl, ?hy82⟩) (by assumption) ?rest82
      case hy82 => (intro w hSw; (try dsimp only at hSw); go_simp; (try with_reducible rfl))
      simp only [Act.put, List.getElem_toArray, List.getElem_cons_zero, List.getElem_cons_succ, List.setIfInBounds_toArray, List.set_cons_zero, List.set_cons_succ]
      refine wpAnyH_take (i := 7) (v := ?v83) rfl (by kernel_rfl) (by kernel_rfl) (by kernel_rfl) (fun _ _ _ h => h) (Or.inl ⟨by rfl, ?hy83⟩) (by assumption) ?rest83
      case hy83 => (intro w hSw; (try dsimp only at hSw); go_simp; (try with_reducible rfl))
      simp only [Act.put, List.getElem_toArray, List.getElem_cons_zero, List.getElem_cons_succ, List.setIfInBounds_toArray, List.set_cons_zero, List.set_cons_succ]
      refine wpAnyH_ready (rs := [9]) (by kernel_rfl) (by simp) ?_
      refine AllReadyH.cons rfl (fun K hK => ?_) AllReadyH.nil
      simp only [List.getElem_toArray, List.getElem_cons_zero, List.getElem_cons_succ]
      go_simp
      refine hK.out _ _ (by (try dsimp only); exact hHeld.setC _ _ (by show w12.heap.size ≤ w12.heap.size; omega)) (fun hHeld => ?_)
      clear hK K
      refine wpAnyH_take (i := 10) (v := ?v84) rfl (by kernel_rfl) (by kernel_rfl) (by kernel_rfl) (fun _ _ _ h => h) (Or.inl ⟨by rfl, ?hy84⟩) (by assumption) ?rest84
      case hy84 => (intro w hSw; (try dsimp only at hSw); go_simp; (try with_reducible rfl))
      simp only [Act.put, List.getElem_toArray, List.getElem_cons_zero, List.getElem_cons_succ, List.setIfInBounds_toArray, List.set_cons_zero, List.set_cons_succ]
      have hR : w12.heap.size ≤ w12.heap.size ∧ w12.heap.size < (wF.setCell ⟨w12.heap.size, 0, none⟩ (.slice va ma ca)).heap.size ∧ w12.heap.size ≤ BF ∧ wF.heap.size ≤ (wF.setCell ⟨w12.heap.size, 0, none⟩ (.slice va ma ca)).heap.size ∧ (w12.heap.size < BF ∨ wF.heap.size ≤ w12.heap.size) ∧ (wF.setCell ⟨w12.heap.size, 0, none⟩ (.slice va ma ca)).cell? ⟨w12.heap.size, 0, none⟩ = some (.slice va ma ca) ∧ TripsIn 44 (wF.setCell ⟨w12.heap.size, 0, none⟩ (.slice va ma ca)) BF wF.heap.size (.slice va ma ca) x ∧ Below w12.heap.size w12 (wF.setCell ⟨w12.heap.size, 0, none⟩ (.slice va ma ca)) := ⟨by omega, by first | omega | (simp; done) | (simp; omega), by omega, by first | omega | (simp; done) | (simp; omega), by omega, by go_simp, kF.setC _ _ (by show w12.heap.size < BF; omega), hHeld⟩
      refine wpAnyH_done (by kernel_rfl) ?_ _
      go_wp2_with fail
      go_meet
      case rel => exact ⟨_, _, _, _, _, _, rfl, rfl, hR⟩
  obtain ⟨w13, rfl⟩ : ∃ z, z = wc := ⟨wc, rfl⟩
  obtain ⟨nbzh, azh, mzh, czh, Bzh_, Tzh_, hs0, hs1, qa13, qb13, qc13, qd13, qe13, zzh13, kh_13, hb13⟩ := hcut
  subst hs0 hs1
  have n13 := hb13.size
  have B13 := B12.trans (hb13.mono (by omega))
  have zp13 := cellB hb13 zp12
  have zkx13 := cellB hb13 zkx12
  have zky13 := cellB hb13 zky12
  have zkz13 := cellB hb13 zkz12
  have zzw13 := cellB hb13 zzw12
  have zc13 := cellB hb13 zc12
  have zzg13 := cellB hb13 zzg12
  clear zp12 zkx12 zky12 zkz12 zzw12 zc12 zzg12
  have kw_13 := kw_12.keep (belowSame hb13 (by omega))
  have kc_13 := kc_12.keep (belowSame hb13 (by omega))
  have kg_13 := kg_12.keep (belowSame hb13 (by omega))
  have kd_13 := kd_12.keep (belowSame hb13 (by omega))
  go_wp2_with fail
  refine (eqPuzzle_in _ _ x _ _ _ _ _ _ kh_13 kw_13 (by first | omega | (simp; done) | (simp; omega)) (by first | omega | (simp; done) | (simp; omega))).mono ?_
  rintro e w14 ⟨rfl, hx14⟩
  have hb14 : Below w13.heap.size w13 w14 := Below.trans (by go_grown) (hx14.mono (by first | omega | (simp; done) | (simp; omega)))
  have n14 : w13.heap.size + 0 ≤ w14.heap.size := by have := hx14.size; (try simp at this); omega
  have B14 : Below w.heap.size w w14 := B13.trans (hb14.mono (by omega))
  have zp14 := cellB hb14 zp13
  have zkx14 := cellB hb14 zkx13
  have zky14 := cellB hb14 zky13
  have zkz14 := cellB hb14 zkz13
  have zzw14 := cellB hb14 zzw13
  have zc14 := cellB hb14 zc13
  have zzg14 := cellB hb14 zzg13
  have zzh14 := cellB hb14 zzh13
  clear zp13 zkx13 zky13 zkz13 zzw13 zc13 zzg13 zzh13
  have kw_14 := kw_13.keep (belowSame hb14 (by omega))
  have kc_14 := kc_13.keep (belowSame hb14 (by omega))
  have kg_14 := kg_13.keep (belowSame hb14 (by omega))
  have kd_14 := kd_13.keep (belowSame hb14 (by omega))
  have kh_14 := kh_13.keep (belowSame hb14 (by omega))
  go_wp2_with fail
  refine (heldPuzzle_in _ 1 x.length _ _ _ _ kg_14 (by omega) (by omega) (by omega) (by omega)).mono ?_
  rintro e w15 ⟨rfl, hx15⟩
  have hb15 : Below w14.heap.size w14 w15 := Below.trans (by go_grown) (hx15.mono (by first | omega | (simp; done) | (simp; omega)))
  have n15 : w14.heap.size + 0 ≤ w15.heap.size := by have := hx15.size; (try simp at this); omega
  have B15 : Below w.heap.size w w15 := B14.trans (hb15.mono (by omega))
  have zp15 := cellB hb15 zp14
  have zkx15 := cellB hb15 zkx14
  have zky15 := cellB hb15 zky14
  have zkz15 := cellB hb15 zkz14
  have zzw15 := cellB hb15 zzw14
  have zc15 := cellB hb15 zc14
  have zzg15 := cellB hb15 zzg14
  have zzh15 := cellB hb15 zzh14
  clear zp14 zkx14 zky14 zkz14 zzw14 zc14 zzg14 zzh14
  have kw_15 := kw_14.keep (belowSame hb15 (by omega))
  have kc_15 := kc_14.keep (belowSame hb15 (by omega))
  have kg_15 := kg_14.keep (belowSame hb15 (by omega))
  have kd_15 := kd_14.keep (belowSame hb15 (by omega))
  have kh_15 := kh_14.keep (belowSame hb15 (by omega))
  go_wp2_with fail
  go_ret
  exact ⟨rfl, B15⟩

set_option maxHeartbeats 400000 in
theorem long_AddClue (v : Value) (xs : List Tri) (ck ca cb : Int) (w : World) (hA : ArgT w v xs) (hn : ¬ xs.length ≤ 1048576) :
    Calls Tryd.prog 5 #[.agg #[v], .agg #[.int .i64 ck, .int .i64 ca, .int .i64 cb]] w fun e w' => e = .returned (.bool true) ∧ Below w.heap.size w w' := by
  obtain ⟨a0, cap, a, rfl, _, hm, _⟩ := hA
  go_enter Tryd.func5, Tryd.ntmps5
  go_wp2_with fail
  refine (szPuzzle_no _ _ _ _ (by omega) hm).mono ?_
  rintro e w0 ⟨rfl, hb0⟩
  go_wp2_with fail
  go_ret
  exact ⟨rfl, Below.trans (by go_grown) (hb0.mono (by first | omega | (simp; done) | (simp; omega)))⟩

theorem walk_AddClue (v : Value) (xs : List Tri) (k a b : Int) (w : World) (hA : ArgT w v xs) (hW : ClueW w) :
    Calls Tryd.prog 5 #[.agg #[v], .agg #[.int .i64 k, .int .i64 a, .int .i64 b]] w fun e w' => e = .returned (.bool true) ∧ Below w.heap.size w w' := by
  by_cases hn : xs.length ≤ 1048576
  · by_cases hP : puzzleP xs
    · by_cases hC : clueP (k, a, b)
      · by_cases hl : xs.length = 6
        · exact core_AddClue v xs k a b [] false w hA hW hn (by simp) (fun W u B T hw h _ => sAddClue_no3 u xs W h.1.src k a b hw hP hC hl) (fun W u B T hw h _ => iAddClue_no3 u xs W h.1.src k a b hw hP hC hl)
        · have hl6 := hP.1
          exact core_AddClue v xs k a b (xs ++ [(k, a, b)]) true w hA hW hn (by simp; omega) (fun W u B T hw h _ => sAddClue_yes u xs W h.1.src k a b hw hP hC hl) (fun W u B T hw h _ => iAddClue_yes u xs W h.1.src k a b hw hP hC hl)
      · exact core_AddClue v xs k a b [] false w hA hW hn (by simp) (fun W u B T hw h _ => sAddClue_no2 u xs W h.1.src k a b hw hP hC) (fun W u B T hw h _ => iAddClue_no2 u xs W h.1.src k a b hw hP hC)
    · exact core_AddClue v xs k a b [] false w hA hW hn (by simp) (fun W u B T hw h _ => sAddClue_no1 u xs W h.1.src k a b hw hP) (fun W u B T hw h _ => iAddClue_no1 u xs W h.1.src k a b hw hP)
  · exact long_AddClue v xs k a b w hA hn
end Go.Proofs.YtbgcbokddldmkaaDoor
