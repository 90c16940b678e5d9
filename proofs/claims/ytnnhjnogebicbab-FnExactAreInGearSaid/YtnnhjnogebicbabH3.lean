/- Trains: turns of their wheels. -/
import Derived.Test.YtnnhjnogebicbabH2
import Derived.Test.YtnnhjnogebicbabB2
import Derived.Test.YtnnhjnogebicbabB3
import Derived.Deep.AppendLies
namespace Go.Proofs.Ytnnhjnogebicbab
open Go.RowKit
set_option linter.unusedVariables false

/-- The way around of wheel i. -/
def sgn (i : Nat) : Int := if i % 2 = 1 then -1 else 1

theorem sgn_cases (i : Nat) : (sgn i = 1 ∨ sgn i = -1) ∧ sgn (i + 1) = -sgn i := by
  unfold sgn
  rcases Nat.mod_two_eq_zero_or_one i with h | h
  · have : (i + 1) % 2 = 1 := by omega
    simp [h, this]
  · have : (i + 1) % 2 = 0 := by omega
    simp [h, this]

/-- Numerators and denominators of the turns of wheel i. -/
def numT (xs : List Int) (k : Int) (i : Nat) : Int := (sgn i * (k * xs.getD 0 0)).tdiv (Nat.gcd (k * xs.getD 0 0).natAbs (tn xs i) : Nat)
def denT (xs : List Int) (k : Int) (i : Nat) : Int := ((tn xs i / Nat.gcd (k * xs.getD 0 0).natAbs (tn xs i) : Nat) : Int)

theorem turn_round {xs : List Int} (h : Wheels xs) (k : Int) (hk : -1000 ≤ k ∧ k ≤ 1000) (i : Nat) (hi : i < xs.length) :
    ∃ (T s m z : Int) (N t g d : Nat), k * xs.getD 0 0 = T ∧ T.natAbs = N ∧ xs.getD i 0 = (t : Int) ∧ Nat.gcd N t = g ∧ (t : Int) / (g : Int) = (d : Int) ∧ sgn i = s ∧ s * T = m ∧ m.tdiv (g : Int) = z ∧ numT xs k i = z ∧ denT xs k i = (d : Int) ∧
      -300000 ≤ T ∧ T ≤ 300000 ∧ -300000 ≤ m ∧ m ≤ 300000 ∧ -300000 ≤ z ∧ z ≤ 300000 ∧ N ≤ 300000 ∧ 1 ≤ t ∧ t ≤ 300 ∧ 1 ≤ g ∧ g ≤ 300 ∧ d ≤ 300 ∧ (s = 1 ∨ s = -1) := by
  have h1 := h.tn hi
  have h0 := h.2 0 (by omega)
  have b1 : k * xs.getD 0 0 ≤ 300000 := by
    rcases Int.le_total 0 k with c | c
    · have := Int.mul_le_mul hk.2 h0.2 (by omega) (by omega); omega
    · have : k * xs.getD 0 0 ≤ 0 := Int.mul_nonpos_of_nonpos_of_nonneg c (by omega); omega
  have b2 : -300000 ≤ k * xs.getD 0 0 := by
    rcases Int.le_total 0 k with c | c
    · have := Int.mul_nonneg c (show 0 ≤ xs.getD 0 0 by omega); omega
    · have := Int.mul_le_mul (show -k ≤ 1000 by omega) h0.2 (by omega) (by omega)
      rw [Int.neg_mul] at this
      omega
  obtain ⟨T, hT⟩ : ∃ T, k * xs.getD 0 0 = T := ⟨_, rfl⟩
  obtain ⟨s, hs⟩ : ∃ s, sgn i = s := ⟨_, rfl⟩
  have hs1 := (sgn_cases i).1
  rw [hs] at hs1
  rw [hT] at b1 b2
  obtain ⟨g, hg⟩ : ∃ g, Nat.gcd T.natAbs (tn xs i) = g := ⟨_, rfl⟩
  have g1 : 1 ≤ g := by rw [← hg]; exact Nat.gcd_pos_of_pos_right _ (by omega)
  have g2 : g ≤ tn xs i := by rw [← hg]; exact Nat.gcd_le_right _ (by omega)
  have m1 : -300000 ≤ s * T ∧ s * T ≤ 300000 := by
    rcases hs1 with rfl | rfl
    · rw [Int.one_mul]; omega
    · rw [Int.neg_mul, Int.one_mul]; omega
  have z1 : ((s * T).tdiv (g : Int)).natAbs ≤ (s * T).natAbs := by
    rw [Int.natAbs_tdiv]
    exact Nat.div_le_self _ _
  refine ⟨T, s, s * T, _, T.natAbs, tn xs i, g, tn xs i / g, hT, rfl, h1.1.symm, hg, by simp, hs, rfl, rfl, by unfold numT; rw [hT, hs, hg], by unfold denT; rw [hT, hg], b2, b1, m1.1, m1.2, by omega, by omega, by omega, h1.2.1, h1.2.2, g1, by omega, ?_, hs1⟩
  exact Nat.le_trans (Nat.div_le_self _ _) h1.2.2

set_option maxHeartbeats 400000 in
theorem signOf_any (i : Nat) (w : World) (hi : i ≤ 1000) :
    Calls Try.prog 38 #[.int .i64 i] w fun e w' => e = .returned (.int .i64 (sgn i)) ∧ w = w' := by
  rcases Nat.mod_two_eq_zero_or_one i with h | h
  · have h2 : ((i : Int) % 2 == 1) = false := by rw [beq_eq_false_iff_ne]; omega
    have hs : sgn i = 1 := by simp [sgn, h]
    rw [hs]
    go_enter Try.func38, Try.ntmps38
    go_wp2
    go_ret
    exact ⟨rfl, rfl⟩
  · have h2 : ((i : Int) % 2 == 1) = true := by rw [beq_iff_eq]; omega
    have hs : sgn i = -1 := by simp [sgn, h]
    rw [hs]
    go_enter Try.func38, Try.ntmps38
    go_wp2
    go_ret
    exact ⟨rfl, rfl⟩

set_option maxHeartbeats 400000 in
theorem l1Abs_any (T : Int) (N : Nat) (w : World) (h : -300000 ≤ T ∧ T ≤ 300000) (hN : T.natAbs = N) :
    Calls Try.prog 35 #[.int .i64 T] w fun e w' => e = .returned (.int .i64 N) ∧ w = w' := by
  obtain ⟨h1, h2⟩ := h
  have hm : ∀ (W : World), Calls Try.prog 59 #[.int .i64 T, .int .i64 (-T)] W fun e w' => e = .returned (.int .i64 N) ∧ W = w' := fun W => by
    by_cases h3 : -T < T
    · obtain rfl : T = (N : Int) := by omega
      go_enter Try.func59, Try.ntmps59
      go_wp2
      go_ret
      exact ⟨rfl, rfl⟩
    · have h4 : -T = (N : Int) := by omega
      rw [h4] at h3 ⊢
      clear h4 hN
      go_enter Try.func59, Try.ntmps59
      go_wp2
      go_ret
      exact ⟨rfl, rfl⟩
  go_enter Try.func35, Try.ntmps35
  go_wp2_with (first | (go_at_call 59; (with_reducible refine (hm _).mono ?_); rintro e w1 ⟨rfl, rfl⟩))
  go_ret
  exact ⟨rfl, rfl⟩

theorem set_grown2 (W : World) (b j : Nat) (u : Value) : W.grownBy (W.setCell ⟨b, j, none⟩ u) (some b) :=
  ⟨rfl, rfl, rfl, (by show W.heap.size ≤ (W.heap.modify _ _).size; rw [Array.size_modify]; exact Nat.le_refl _), fun k _ hne => Below.heap_setCell _ _ _ k (fun e => hne (by rw [e]))⟩

theorem two_stores {w0 w : World} {B n : Nat} (j : Nat) {e : TypeId} {L L2 : List Int} (z d : Int) (hI : Ints w B e (.slice (some ⟨B, 0, none⟩) n n) L) (hJ : Ints w (B + 1) e (.slice (some ⟨B + 1, 0, none⟩) n n) L2) (hB : Below B w0 w) (hz : B ≤ w.heap.size) :
    Ints ((w.setCell ⟨B, j, none⟩ (.int .i64 z)).setCell ⟨B + 1, j, none⟩ (.int .i64 d)) B e (.slice (some ⟨B, 0, none⟩) n n) (L.set j z) ∧ Ints ((w.setCell ⟨B, j, none⟩ (.int .i64 z)).setCell ⟨B + 1, j, none⟩ (.int .i64 d)) (B + 1) e (.slice (some ⟨B + 1, 0, none⟩) n n) (L2.set j d) ∧ Below B w0 ((w.setCell ⟨B, j, none⟩ (.int .i64 z)).setCell ⟨B + 1, j, none⟩ (.int .i64 d)) := by
  have h1 := hI.stored j z
  have h2 := (hJ.kept h1.2 (.inr (by simp [Value.ownBlock]))).stored j d
  have h3 := h1.1.kept h2.2 (.inr (by simp [Value.ownBlock]))
  refine ⟨h3, h2.1, ?_⟩
  exact (hB.grown h1.2 hz (fun k hk => by cases hk; exact Nat.le_refl _)).grown h2.2 (Nat.le_trans hz h1.2.size) (fun k hk => by cases hk; omega)

set_option maxHeartbeats 1000000 in
theorem iTrainTurns_yes (v : Value) (xs : List Int) (k : Int) (w : World) (h : ArgI w v xs) (ht : Train xs) (hk : -1000 ≤ k ∧ k ≤ 1000) :
    Calls Try.prog 12 #[v, .int .i64 k] w fun e w' => ∃ M r0 r1, e = .returned (.tuple #[r0, r1, .bool true]) ∧ IntsIn 3 w' w.heap.size M r0 ((List.range xs.length).map (numT xs k)) ∧ IntsIn 3 w' M w'.heap.size r1 ((List.range xs.length).map (denT xs k)) ∧ w.heap.size ≤ M ∧ M ≤ w'.heap.size ∧ Below w.heap.size w w' := by
  have HR := Lib.hid (fun i hi => turn_round ht.wheels k hk i hi)
  have two := ht.two
  have six := ht.1.2
  have h' := h
  obtain ⟨a0, cap, a, rfl, ha, hm, hc⟩ := h'
  obtain rfl := ha (by omega)
  have HC := Lib.hid hc
  have H := Lib.hid h
  obtain ⟨T, _, _, _, _, _, _, _, hT, _, _, _, _, _, _, _, _, _, b1, b2, _⟩ := HR.out 0 (by omega)
  obtain ⟨t0, ht0⟩ : ∃ t0, xs.getD 0 0 = t0 := ⟨_, rfl⟩
  have hc0 : w.cell? a = some (.int .i64 t0) := by
    have h0 := hc 0 (by omega)
    rw [ht0, show a.add 0 = a from by cases a; simp [Addr.add]] at h0
    exact h0
  rw [ht0] at hT
  have HT0 := Lib.hid ht0
  have HT := Lib.hid hT
  have h00 := ht.wheels.2 0 (by omega)
  rw [ht0] at h00
  obtain ⟨h01, h02⟩ := h00
  obtain ⟨k1, k2⟩ := hk
  have HTR := Lib.hid ht
  clear ha hc h ht0 ht
  obtain ⟨n, hn⟩ : ∃ n, xs.length = n := ⟨_, rfl⟩
  have hmk := make_ints (P := Try.prog) Try.underlying22 info_int n (by omega)
  have l0 : 0 < (n : Int) := by omega
  obtain ⟨f, hf⟩ : ∃ f, numT xs k = f := ⟨_, rfl⟩
  obtain ⟨d, hd⟩ : ∃ d, denT xs k = d := ⟨_, rfl⟩
  rw [hn] at HC H HR hm two six ⊢
  rw [hf, hd]
  rw [hf, hd] at HR
  clear hf hd hn
  have B2 : Below w.heap.size w ((w.alloc (.cells (zeroInts n) 3)).alloc (.cells (zeroInts n) 3)) := by go_grown
  have c00 := (B2.cell (World.block_lt_of_cell? w _ hc0)).trans hc0
  have HB2 := Lib.hid B2
  clear hc0 B2
  go_enter Try.func12, Try.ntmps12
  go_wp2_with (first | (go_at_call 36; (with_reducible refine (isTrain_yes _ _ _ H.out HTR.out).mono ?_); rintro e w1 ⟨rfl, rfl⟩))
  go_loopw [37] (fun i wr => ∃ j : Nat, j ≤ n ∧ i = .int .i64 j ∧ Ints wr w.heap.size 3 (.slice (some ⟨w.heap.size, 0, none⟩) n n) (fillTo f n j) ∧ Ints wr (w.heap.size + 1) 3 (.slice (some ⟨w.heap.size + 1, 0, none⟩) n n) (fillTo d n j) ∧ Below w.heap.size w wr) (fun i _ => n - (intOf i).toNat)
  case atStart => exact ⟨0, by omega, rfl, by rw [fillTo_zero]; exact (Ints.made w w.heap.size _ n (Nat.le_refl _) (by omega)).later (by go_grown), by rw [fillTo_zero]; have := Ints.made (w.alloc (.cells (zeroInts n) 3)) (w.heap.size + 1) 3 n (by simp) (by omega); simpa using this, HB2.out⟩
  case round =>
    obtain ⟨j, hj, rfl, hI, hJ, hB⟩ := hrel
    have hz := hB.size
    by_cases hlt : j < n
    · obtain ⟨T', s, m, z, N, t, g, dd, e1, e2, e3, e4, e5, e6, e7, e8, e9, e10, q1, q2, q3, q4, q5, q6, q7, q8, q9, q10, q11, q12, q13⟩ := HR.out j hlt
      obtain rfl : T' = T := by rw [← e1, HT0.out, HT.out]
      have cc := (hB.cell (World.block_lt_of_cell? w _ (HC.out j hlt))).trans (HC.out j hlt)
      rw [e3] at cc
      have HS := Lib.hid e6
      have HG := Lib.hid e4
      have g1 : 1 ≤ (g : Int) := by omega
      have HI := Lib.hid hI
      have HJ := Lib.hid hJ
      have HF := Lib.hid (fillTo_set f n j hlt)
      have HD := Lib.hid (fillTo_set d n j hlt)
      have HF9 := Lib.hid e9
      have HD9 := Lib.hid e10
      clear e1 e3 e4 e6 e9 e10 hI hJ
      have hT2 : T' = (N : Int) ∨ (T' = -(N : Int) ∧ 1 ≤ N) := by omega
      clear e2
      rcases hT2 with rfl | ⟨rfl, hN1⟩
      all_goals
        go_wp2_with (first
          | (go_at_call 37; (refine (commonDivisor_any N t _ (by omega) (by omega)).mono ?_); rintro e w1 ⟨rfl, hb⟩; rw [HG.out]; have hI1 := HI.out.later hb; have hJ1 := HJ.out.later hb; have HT3 := Lib.hid (two_stores j z dd hI1 hJ1 (hB.trans (hb.mono hz)) (Nat.le_trans hz hb.size)); have d0 := hI1.cellAt j (by rw [fillTo_length _ _ _ hj]; exact hlt); have d1 := hJ1.cellAt j (by rw [fillTo_length _ _ _ hj]; exact hlt); have f0 := hI1.frozenAt j; have f1 := hJ1.frozenAt j; generalize (fillTo f n j).getD j 0 = old0 at d0; generalize (fillTo d n j).getD j 0 = old1 at d1; clear hI1 hJ1 hB)
          | (go_at_call 38; (refine (signOf_any _ _ (by omega)).mono ?_); rintro e w2 ⟨rfl, rfl⟩; rw [HS.out]))
        go_roundw
        case rel => exact ⟨j + 1, by omega, by go_num, by rw [← HF.out, HF9.out]; exact HT3.out.1, by rw [← HD.out, HD9.out]; exact HT3.out.2.1, HT3.out.2.2⟩
        case measure => simp [intOf]; omega
    · obtain rfl : j = n := by omega
      rw [fillTo_all] at hI hJ
      go_wp2
      go_ret3
      exact ⟨w.heap.size + 1, _, _, rfl, ⟨hI, fun k hk => by simp [Value.ownBlock] at hk; omega⟩, ⟨hJ, fun k hk => (hJ.own k hk).2⟩, by omega, Nat.le_of_lt (hJ.own _ rfl).2, hB⟩

set_option maxHeartbeats 400000 in
theorem iTrainTurns_no (v : Value) (xs : List Int) (k : Int) (w : World) (h : ArgI w v xs) (ht : ¬ (Train xs ∧ -1000 ≤ k ∧ k ≤ 1000)) :
    Calls Try.prog 12 #[v, .int .i64 k] w fun e w' => e = .returned (.tuple #[.slice none 0 0, .slice none 0 0, .bool false]) ∧ Below w.heap.size w w' := by
  have H := Lib.hid h
  clear h
  by_cases h1 : Train xs
  · by_cases h2 : -1000 ≤ k
    · have h3 : 1000 < k := by
        refine Classical.byContradiction fun g => ht ⟨h1, h2, by omega⟩
      have h4 : ¬ k < -1000 := by omega
      clear ht
      go_enter Try.func12, Try.ntmps12
      go_wp2_with (first | (go_at_call 36; (with_reducible refine (isTrain_yes _ _ _ H.out h1).mono ?_); rintro e w1 ⟨rfl, rfl⟩))
      go_ret3
      exact ⟨rfl, Below.refl _ _⟩
    · have h3 : k < -1000 := by omega
      clear ht h2
      go_enter Try.func12, Try.ntmps12
      go_wp2_with (first | (go_at_call 36; (with_reducible refine (isTrain_yes _ _ _ H.out h1).mono ?_); rintro e w1 ⟨rfl, rfl⟩))
      go_ret3
      exact ⟨rfl, Below.refl _ _⟩
  · clear ht
    go_enter Try.func12, Try.ntmps12
    go_wp2_with (first | (go_at_call 36; (with_reducible refine (isTrain_no _ _ _ H.out h1).mono ?_); rintro e w1 ⟨rfl, rfl⟩))
    go_ret3
    exact ⟨rfl, Below.refl _ _⟩

set_option maxHeartbeats 400000 in
theorem sTrainTurns_no (v : Value) (xs : List Int) (k : Int) (w : World) (h : ArgI w v xs) (hm : xs.length ≤ 1048576) (ht : ¬ (Train xs ∧ -1000 ≤ k ∧ k ≤ 1000)) :
    Calls Try.prog 10 #[v, .int .i64 k] w fun e w' => e = .returned (.tuple #[.slice none 0 0, .slice none 0 0, .bool false]) ∧ Below w.heap.size w w' := by
  have H := Lib.hid h
  clear h
  by_cases h1 : Train xs
  · have h2 : ¬ (-1000 ≤ k ∧ k ≤ 1000) := fun g => ht ⟨h1, g⟩
    clear ht
    go_enter Try.func10, Try.ntmps10
    go_wp2_with (first | (go_at_call 32; (with_reducible refine (geTrain_yes _ _ _ H.out h1).mono ?_); rintro e w1 ⟨rfl, rfl⟩) | (go_at_call 33; (with_reducible refine (l1In_no _ _ _ _ h2).mono ?_); rintro e w1 ⟨rfl, rfl⟩))
    go_ret3
    exact ⟨rfl, Below.refl _ _⟩
  · clear ht
    go_enter Try.func10, Try.ntmps10
    go_wp2_with (first | (go_at_call 32; (with_reducible refine (geTrain_no _ _ _ H.out h1 hm).mono ?_); rintro e w1 ⟨rfl, rfl⟩))
    go_ret3
    exact ⟨rfl, Below.refl _ _⟩

/-- 'append(out, y)' onto integers of the call's own: where they lie then. -/
theorem wpList_append_int_lies {P : Program} {wr : World} {ops : Array Oper} {rest : List Oper} {o : Oper} {a : Act} {Q : Exit → Act → World → Prop} (hgd : o.guard = none) (s x : Operand) (t : TypeId)
    (ho : o.op = .call { callee := .builtin .append, args := #[s, x], argTypes := #[t, t] }) (base : Nat) (e : TypeId) (ht : P.underlying t = some (.slice e))
    (hi : (P.info? e).map (fun i => (i.zero, i.size, i.bytes)) = some (some (.int .i64 0), 1, 8)) (v : Value) (xs : List Int) (hs : a.eval s = v) (hI : Ints wr base e v xs) (y : Int) (z : Nat) (hz : z = wr.heap.size)
    (hx : a.eval x = .slice (some ⟨z, 0, none⟩) 1 1) (hn : xs.length < 1000000000) (hbase : base ≤ wr.heap.size)
    (h : ∀ g cap w', Ints w' base e (.slice (some ⟨g, 0, none⟩) (xs.length + 1) cap) (xs ++ [y]) → wr.grownBy w' v.ownBlock → (v.ownBlock = some g ∨ g = wr.heap.size + 1) → wpList P ops Q rest (a.put o.dst (.slice (some ⟨g, 0, none⟩) (xs.length + 1) cap)) w') :
    wpList P ops Q (o :: rest) a (wr.alloc (.cells #[.int .i64 y] e)) := by
  subst hz
  obtain ⟨i, hi, hz0, hz1, hz2⟩ := info_parts hi
  refine wpList_append_lies _ hgd s x t ho base e i (.int .i64 0) 1 8 ht hi hz0 hz1 hz2 rfl (by decide) v xs.length _ hs (World.ownsRow.alloc hI _) ⟨wr.heap.size, 0, none⟩ 1 1 [.int .i64 y] hx rfl ?_ ?_ (by decide) (by unfold maxLen; omega) (by omega) (by simp; omega) _ rfl ?_
  · exact cell_one_new _ _ _
  · intro u hu
    simp at hu
    subst hu
    rfl
  · intro g cap w' h1 h2 h3 _
    refine h g cap w' ?_ (grownBy_trans (World.grownBy_alloc _ _ _) h2) (by simpa using h3)
    have e1 : (xs ++ [y]).length = xs.length + 1 := by simp
    unfold Ints
    rw [e1, List.map_append]
    exact h1

theorem map_range_succ (f : Nat → Int) (j : Nat) : (List.range j).map f ++ [f j] = (List.range (j + 1)).map f := by simp [List.range_succ]

theorem Ints.opened {w : World} {B : Nat} {e : TypeId} {v : Value} {xs : List Int} (h : Ints w B e v xs) : ∃ a0 cap, v = .slice a0 xs.length cap := by
  obtain ⟨a0, cap, g, hv, _⟩ := h.view
  exact ⟨a0, cap, hv⟩

/-- What was appended to one list stays apart from another one. -/
theorem apart {w w' : World} {B g : Nat} {e : TypeId} {u v : Value} {ys : List Int} (hJ : Ints w B e v ys) (hA : ∀ q, u.ownBlock = some q → v.ownBlock ≠ some q) (hg : w.grownBy w' u.ownBlock) (hl : u.ownBlock = some g ∨ g = w.heap.size + 1) : Ints w' B e v ys ∧ v.ownBlock ≠ some g := by
  refine ⟨hJ.kept hg ?_, fun hv => ?_⟩
  · cases hv : v.ownBlock with
    | none => exact .inl rfl
    | some q => exact .inr fun e => hA q e.symm hv
  · rcases hl with hl | hl
    · exact hA g hl hv
    · have := (hJ.own g hv).2
      omega

set_option maxHeartbeats 2000000 in
theorem sTrainTurns_yes (v : Value) (xs : List Int) (k : Int) (w : World) (h : ArgI w v xs) (ht : Train xs) (hk : -1000 ≤ k ∧ k ≤ 1000) :
    Calls Try.prog 10 #[v, .int .i64 k] w fun e w' => ∃ r0 r1, e = .returned (.tuple #[r0, r1, .bool true]) ∧ IntsIn 3 w' w.heap.size w'.heap.size r0 ((List.range xs.length).map (numT xs k)) ∧ IntsIn 3 w' w.heap.size w'.heap.size r1 ((List.range xs.length).map (denT xs k)) ∧ Below w.heap.size w w' := by
  have HR := Lib.hid (fun i hi => turn_round ht.wheels k hk i hi)
  have two := ht.two
  have six := ht.1.2
  have h' := h
  obtain ⟨a0, cap, a, rfl, ha, hm, hc⟩ := h'
  obtain rfl := ha (by omega)
  have HC := Lib.hid hc
  have H := Lib.hid h
  obtain ⟨T, _, _, _, _, _, _, _, hT, _, _, _, _, _, _, _, _, _, b1, b2, _⟩ := HR.out 0 (by omega)
  obtain ⟨t0, ht0⟩ : ∃ t0, xs.getD 0 0 = t0 := ⟨_, rfl⟩
  have hc0 : w.cell? a = some (.int .i64 t0) := by
    have h0 := hc 0 (by omega)
    rw [ht0, show a.add 0 = a from by cases a; simp [Addr.add]] at h0
    exact h0
  rw [ht0] at hT
  have HT0 := Lib.hid ht0
  have HT := Lib.hid hT
  have h00 := ht.wheels.2 0 (by omega)
  rw [ht0] at h00
  obtain ⟨h01, h02⟩ := h00
  have HTR := Lib.hid ht
  have HC0 := Lib.hid hc0
  have HK := Lib.hid hk
  obtain ⟨k1, k2⟩ := hk
  clear ha hc h ht0 ht hc0
  obtain ⟨n, hn⟩ : ∃ n, xs.length = n := ⟨_, rfl⟩
  have l0 : 0 < (n : Int) := by omega
  obtain ⟨f, hf⟩ : ∃ f, numT xs k = f := ⟨_, rfl⟩
  obtain ⟨d, hd⟩ : ∃ d, denT xs k = d := ⟨_, rfl⟩
  rw [hn] at HC H HR hm two six ⊢
  rw [hf, hd]
  rw [hf, hd] at HR
  clear hf hd hn
  go_enter Try.func10, Try.ntmps10
  go_wp2_with (first | (go_at_call 32; (with_reducible refine (geTrain_yes _ _ _ H.out HTR.out).mono ?_); rintro e w1 ⟨rfl, rfl⟩) | (go_at_call 33; (with_reducible refine (l1In_yes _ _ _ _ HK.out).mono ?_); rintro e w1 ⟨rfl, rfl⟩))
  go_loopw [7, 8, 9, 24] (fun u v s i wr => ∃ j : Nat, j ≤ n ∧ i = .int .i64 j ∧ s = .int .i64 (sgn j) ∧ Ints wr w.heap.size 3 u ((List.range j).map f) ∧ Ints wr w.heap.size 3 v ((List.range j).map d) ∧ (∀ g, u.ownBlock = some g → v.ownBlock ≠ some g) ∧ Below w.heap.size w wr) (fun _ _ _ i _ => n - (intOf i).toNat)
  case atStart => exact ⟨0, by omega, rfl, rfl, World.ownsRow_nil _ _ _ _, World.ownsRow_nil _ _ _ _, fun g hg => by simp [Value.ownBlock] at hg, Below.refl _ _⟩
  case round =>
    obtain ⟨j, hj, rfl, rfl, hI, hJ, hA, hB⟩ := hrel
    have hz := hB.size
    by_cases hlt : j < n
    · obtain ⟨T', s, m, z, N, t, g, dd, e1, e2, e3, e4, e5, e6, e7, e8, e9, e10, q1, q2, q3, q4, q5, q6, q7, q8, q9, q10, q11, q12, q13⟩ := HR.out j hlt
      obtain rfl : T' = T := by rw [← e1, HT0.out, HT.out]
      have cc := (hB.cell (World.block_lt_of_cell? w _ (HC.out j hlt))).trans (HC.out j hlt)
      have c0 := (hB.cell (World.block_lt_of_cell? w _ HC0.out)).trans HC0.out
      rw [e3] at cc
      have HG := Lib.hid e4
      have HE := Lib.hid e2
      have g1 : 1 ≤ (g : Int) := by omega
      have HI := Lib.hid hI
      have HJ := Lib.hid hJ
      have HAA := Lib.hid hA
      have HF := Lib.hid (show (List.range j).map f ++ [z] = (List.range (j + 1)).map f by rw [← e9]; exact map_range_succ f j)
      have HD := Lib.hid (show (List.range j).map d ++ [(dd : Int)] = (List.range (j + 1)).map d by rw [← e10]; exact map_range_succ d j)
      have hs2 := (sgn_cases j).2
      rw [e6] at hs2 ⊢
      have HS2 := Lib.hid hs2
      clear e1 e2 e3 e4 e6 e9 e10 hI hJ hA hs2
      go_wp2_with (first
        | (go_at_call 35; (refine (l1Abs_any _ N _ ⟨by omega, by omega⟩ HE.out).mono ?_); rintro e w1 ⟨rfl, rfl⟩)
        | (go_at_call 34; (refine (srCommon_any N t _ (by omega) (by omega)).mono ?_); rintro e w1 ⟨rfl, hb⟩; rw [HG.out]; have HI1 := Lib.hid (HI.out.later hb); have HJ1 := Lib.hid (HJ.out.later hb); have hB1 := hB.trans (hb.mono hz); have hz1 := hB1.size; clear hB)
        | (at_builtin; refine wpList_append_int_lies rfl _ _ 22 rfl (w.heap.size) 3 Try.underlying22 info_int _ _ rfl HI1.out z _ rfl rfl (by simp; omega) hz1 ?_; intro g2 cap2 w2 hI2 hg2 hl2; rw [HF.out, List.length_map, List.length_range] at hI2; have HI2 := Lib.hid hI2; have hP := apart HJ1.out HAA.out hg2 hl2; have HJ2 := Lib.hid hP.1; have HA2 := Lib.hid hP.2; have hB2 := HI1.out.below hB1 hz1 hg2; have hz2 := hB2.size; clear hI2 hg2 hl2 hP hB1)
        | (at_builtin; refine wpList_append_int_lies rfl _ _ 22 rfl (w.heap.size) 3 Try.underlying22 info_int _ _ rfl HJ2.out dd _ rfl rfl (by simp; omega) hz2 ?_; intro g3 cap3 w3 hJ3 hg3 hl3; rw [HD.out, List.length_map, List.length_range] at hJ3; have HJ3 := Lib.hid hJ3; have hP := apart HI2.out (fun q hq e => HA2.out (hq.trans e.symm)) hg3 hl3; have HI3 := Lib.hid hP.1; have HA3 := Lib.hid hP.2; have hB3 := HJ2.out.below hB2 hz2 hg3; clear hJ3 hg3 hl3 hP hB2))
      go_roundw
      case rel => exact ⟨j + 1, by omega, by go_num, by rw [HS2.out], HI3.out, HJ3.out, fun q hq e => HA3.out (hq.trans e.symm), hB3⟩
      case measure => simp [intOf]; omega
    · obtain rfl : j = n := by omega
      go_wp2
      go_ret3
      exact ⟨_, _, rfl, hI.inn, hJ.inn, hB⟩

set_option maxHeartbeats 1000000 in
theorem core_TrainTurns (v : Value) (xs : List Int) (k : Int) (x : List Int) (y : List Int) (b : Bool) (w : World) (hA0 : ArgI w v xs) (hn0 : xs.length ≤ 1048576) (h_x : x.length ≤ 1000000) (h_y : y.length ≤ 1000000)
    (hs : ∀ (W : World) (u0 : Value) (B0 T0 : Nat), IntsIn 3 W B0 T0 u0 xs → T0 ≤ W.heap.size → Calls Try.prog 10 #[u0, .int .i64 k] W (fun e w' => ∃ r0 r1, e = .returned (.tuple #[r0, r1, .bool b]) ∧ IntsIn 3 w' W.heap.size w'.heap.size r0 x ∧ IntsIn 3 w' W.heap.size w'.heap.size r1 y ∧ Below W.heap.size W w'))
    (hi : ∀ (W : World) (u0 : Value) (B0 T0 : Nat), IntsIn 3 W B0 T0 u0 xs → T0 ≤ W.heap.size → Calls Try.prog 12 #[u0, .int .i64 k] W (fun e w' => ∃ M r0 r1, e = .returned (.tuple #[r0, r1, .bool b]) ∧ IntsIn 3 w' W.heap.size M r0 x ∧ IntsIn 3 w' M w'.heap.size r1 y ∧ W.heap.size ≤ M ∧ M ≤ w'.heap.size ∧ Below W.heap.size W w')) :
    Calls Try.prog 3 #[v, .int .i64 k] w fun e w' => e = .returned (.bool true) ∧ Below w.heap.size w w' := by
  have hA0' := hA0
  obtain ⟨a00, cap0, a0, rfl, _⟩ := hA0'
  have HA0 := Lib.hid hA0
  clear hA0
  have HS := Lib.hid hs
  have HI := Lib.hid hi
  clear hs hi
  go_enter Try.func3, Try.ntmps3
  go_wp2_with fail
  refine (toIntS_any _ _ _ (HA0.out.later (by go_grown)) hn0).mono ?_
  rintro e w1 ⟨va0, rfl, ka0_1, hb1⟩
  have n1 : w.heap.size ≤ w1.heap.size := by have := hb1.size; (try simp at this); omega
  have B1 : Below w.heap.size w w1 := Below.trans (by go_grown) (hb1.mono (by first | (simp; done) | (simp; omega)))
  go_wp2_with fail
  refine (HS.out _ _ _ _ ka0_1 (by omega)).mono ?_
  rintro e w2 ⟨vw0, vw1, rfl, kw0_2, kw1_2, hb2⟩
  have n2 := hb2.size
  have B2 := B1.trans (hb2.mono (by omega))
  have ka0_2 := ka0_1.keep (belowSame hb2 (by omega))
  go_wp2_with fail
  refine (toIntS_any _ _ _ (HA0.out.later B2) hn0).mono ?_
  rintro e w3 ⟨vc0, rfl, kc0_3, hb3⟩
  have n3 := hb3.size
  have B3 := B2.trans (hb3.mono (by omega))
  have ka0_3 := ka0_2.keep (belowSame hb3 (by omega))
  have kw0_3 := kw0_2.keep (belowSame hb3 (by omega))
  have kw1_3 := kw1_2.keep (belowSame hb3 (by omega))
  go_wp2_with fail
  refine (HI.out _ _ _ _ kc0_3 (by omega)).mono ?_
  rintro e w4 ⟨M, vg0, vg1, rfl, kg0_4, kg1_4, hM1, hM2, hb4⟩
  have n4 := hb4.size
  have B4 := B3.trans (hb4.mono (by omega))
  have ka0_4 := ka0_3.keep (belowSame hb4 (by omega))
  have kw0_4 := kw0_3.keep (belowSame hb4 (by omega))
  have kw1_4 := kw1_3.keep (belowSame hb4 (by omega))
  have kc0_4 := kc0_3.keep (belowSame hb4 (by omega))
  go_wp2_with fail
  refine (eqIntS_in _ _ _ _ _ _ _ _ _ kg0_4 kw0_4).mono ?_
  rintro e w5 ⟨rfl, hb5⟩
  have n5 := hb5.size
  have B5 := B4.trans (hb5.mono (by omega))
  have ka0_5 := ka0_4.keep (belowSame hb5 (by omega))
  have kw0_5 := kw0_4.keep (belowSame hb5 (by omega))
  have kw1_5 := kw1_4.keep (belowSame hb5 (by omega))
  have kc0_5 := kc0_4.keep (belowSame hb5 (by omega))
  have kg0_5 := kg0_4.keep (belowSame hb5 (by omega))
  have kg1_5 := kg1_4.keep (belowSame hb5 (by omega))
  go_wp2_with fail
  refine (eqIntS_in _ _ _ _ _ _ _ _ _ kg1_5 kw1_5).mono ?_
  rintro e w6 ⟨rfl, hb6⟩
  have n6 := hb6.size
  have B6 := B5.trans (hb6.mono (by omega))
  have ka0_6 := ka0_5.keep (belowSame hb6 (by omega))
  have kw0_6 := kw0_5.keep (belowSame hb6 (by omega))
  have kw1_6 := kw1_5.keep (belowSame hb6 (by omega))
  have kc0_6 := kc0_5.keep (belowSame hb6 (by omega))
  have kg0_6 := kg0_5.keep (belowSame hb6 (by omega))
  have kg1_6 := kg1_5.keep (belowSame hb6 (by omega))
  go_wp2_with fail
  refine (toIntS_any _ _ _ (HA0.out.later B6) hn0).mono ?_
  rintro e w7 ⟨vd0, rfl, kd0_7, hb7⟩
  have n7 := hb7.size
  have B7 := B6.trans (hb7.mono (by omega))
  have ka0_7 := ka0_6.keep (belowSame hb7 (by omega))
  have kw0_7 := kw0_6.keep (belowSame hb7 (by omega))
  have kw1_7 := kw1_6.keep (belowSame hb7 (by omega))
  have kc0_7 := kc0_6.keep (belowSame hb7 (by omega))
  have kg0_7 := kg0_6.keep (belowSame hb7 (by omega))
  have kg1_7 := kg1_6.keep (belowSame hb7 (by omega))
  go_wp2_with fail
  refine (eqIntS_in _ _ _ _ _ _ _ _ _ kc0_7 kd0_7).mono ?_
  rintro e w8 ⟨rfl, hb8⟩
  have n8 := hb8.size
  have B8 := B7.trans (hb8.mono (by omega))
  have ka0_8 := ka0_7.keep (belowSame hb8 (by omega))
  have kw0_8 := kw0_7.keep (belowSame hb8 (by omega))
  have kw1_8 := kw1_7.keep (belowSame hb8 (by omega))
  have kc0_8 := kc0_7.keep (belowSame hb8 (by omega))
  have kg0_8 := kg0_7.keep (belowSame hb8 (by omega))
  have kg1_8 := kg1_7.keep (belowSame hb8 (by omega))
  have kd0_8 := kd0_7.keep (belowSame hb8 (by omega))
  go_wp2_with fail
  refine (markIntS_in _ _ (1) _ _ _ _ kc0_8 (by omega) (by omega) (by omega)).mono ?_
  rintro e w9 ⟨rfl, mc0_9, o9⟩
  have n9 := o9.size
  have B9 := B8.trans (o9.below (C := w.heap.size) (by omega) (by omega))
  have ka0_9 := ka0_8.keep (o9.same_in (by omega) (by omega))
  have kw0_9 := kw0_8.keep (o9.same_in (by omega) (by omega))
  have kw1_9 := kw1_8.keep (o9.same_in (by omega) (by omega))
  have kg0_9 := kg0_8.keep (o9.same_in (by omega) (by omega))
  have kg1_9 := kg1_8.keep (o9.same_in (by omega) (by omega))
  have kd0_9 := kd0_8.keep (o9.same_in (by omega) (by omega))
  have kc0_9 := mc0_9
  go_wp2_with fail
  refine (eqIntS_in _ _ _ _ _ _ _ _ _ kg0_9 kw0_9).mono ?_
  rintro e w10 ⟨rfl, hb10⟩
  have n10 := hb10.size
  have B10 := B9.trans (hb10.mono (by omega))
  have ka0_10 := ka0_9.keep (belowSame hb10 (by omega))
  have kw0_10 := kw0_9.keep (belowSame hb10 (by omega))
  have kw1_10 := kw1_9.keep (belowSame hb10 (by omega))
  have kc0_10 := kc0_9.keep (belowSame hb10 (by omega))
  have kg0_10 := kg0_9.keep (belowSame hb10 (by omega))
  have kg1_10 := kg1_9.keep (belowSame hb10 (by omega))
  have kd0_10 := kd0_9.keep (belowSame hb10 (by omega))
  go_wp2_with fail
  refine (eqIntS_in _ _ _ _ _ _ _ _ _ kg1_10 kw1_10).mono ?_
  rintro e w11 ⟨rfl, hb11⟩
  have n11 := hb11.size
  have B11 := B10.trans (hb11.mono (by omega))
  have ka0_11 := ka0_10.keep (belowSame hb11 (by omega))
  have kw0_11 := kw0_10.keep (belowSame hb11 (by omega))
  have kw1_11 := kw1_10.keep (belowSame hb11 (by omega))
  have kc0_11 := kc0_10.keep (belowSame hb11 (by omega))
  have kg0_11 := kg0_10.keep (belowSame hb11 (by omega))
  have kg1_11 := kg1_10.keep (belowSame hb11 (by omega))
  have kd0_11 := kd0_10.keep (belowSame hb11 (by omega))
  go_wp2_with fail
  refine (markIntS_in _ _ (1) _ _ _ _ kg0_11 (by omega) (by omega) (by omega)).mono ?_
  rintro e w12 ⟨rfl, mg0_12, o12⟩
  have n12 := o12.size
  have B12 := B11.trans (o12.below (C := w.heap.size) (by omega) (by omega))
  have ka0_12 := ka0_11.keep (o12.same_in (by omega) (by omega))
  have kw0_12 := kw0_11.keep (o12.same_in (by omega) (by omega))
  have kw1_12 := kw1_11.keep (o12.same_in (by omega) (by omega))
  have kc0_12 := kc0_11.keep (o12.same_in (by omega) (by omega))
  have kg1_12 := kg1_11.keep (o12.same_in (by omega) (by omega))
  have kd0_12 := kd0_11.keep (o12.same_in (by omega) (by omega))
  have kg0_12 := mg0_12
  go_wp2_with fail
  refine (markIntS_in _ _ (1 + (x.length : Int)) _ _ _ _ kg1_12 (by omega) (by omega) (by omega)).mono ?_
  rintro e w13 ⟨rfl, mg1_13, o13⟩
  have n13 := o13.size
  have B13 := B12.trans (o13.below (C := w.heap.size) (by omega) (by omega))
  have ka0_13 := ka0_12.keep (o13.same_in (by omega) (by omega))
  have kw0_13 := kw0_12.keep (o13.same_in (by omega) (by omega))
  have kw1_13 := kw1_12.keep (o13.same_in (by omega) (by omega))
  have kc0_13 := kc0_12.keep (o13.same_in (by omega) (by omega))
  have kg0_13 := kg0_12.keep (o13.same_in (by omega) (by omega))
  have kd0_13 := kd0_12.keep (o13.same_in (by omega) (by omega))
  have kg1_13 := mg1_13
  go_wp2_with fail
  refine (heldIntS_in _ (1) x.length _ _ _ _ kg0_13 (by omega) (by omega) (by omega)).mono ?_
  rintro e w14 ⟨rfl, hb14⟩
  have n14 := hb14.size
  have B14 := B13.trans (hb14.mono (by omega))
  have ka0_14 := ka0_13.keep (belowSame hb14 (by omega))
  have kw0_14 := kw0_13.keep (belowSame hb14 (by omega))
  have kw1_14 := kw1_13.keep (belowSame hb14 (by omega))
  have kc0_14 := kc0_13.keep (belowSame hb14 (by omega))
  have kg0_14 := kg0_13.keep (belowSame hb14 (by omega))
  have kg1_14 := kg1_13.keep (belowSame hb14 (by omega))
  have kd0_14 := kd0_13.keep (belowSame hb14 (by omega))
  go_wp2_with fail
  refine (heldIntS_in _ (1 + (x.length : Int)) y.length _ _ _ _ kg1_14 (by omega) (by omega) (by omega)).mono ?_
  rintro e w15 ⟨rfl, hb15⟩
  have n15 := hb15.size
  have B15 := B14.trans (hb15.mono (by omega))
  have ka0_15 := ka0_14.keep (belowSame hb15 (by omega))
  have kw0_15 := kw0_14.keep (belowSame hb15 (by omega))
  have kw1_15 := kw1_14.keep (belowSame hb15 (by omega))
  have kc0_15 := kc0_14.keep (belowSame hb15 (by omega))
  have kg0_15 := kg0_14.keep (belowSame hb15 (by omega))
  have kg1_15 := kg1_14.keep (belowSame hb15 (by omega))
  have kd0_15 := kd0_14.keep (belowSame hb15 (by omega))
  go_wp2_with fail
  refine (toIntS_any _ _ _ (HA0.out.later B15) hn0).mono ?_
  rintro e w16 ⟨ve0, rfl, ke0_16, hb16⟩
  have n16 := hb16.size
  have B16 := B15.trans (hb16.mono (by omega))
  have ka0_16 := ka0_15.keep (belowSame hb16 (by omega))
  have kw0_16 := kw0_15.keep (belowSame hb16 (by omega))
  have kw1_16 := kw1_15.keep (belowSame hb16 (by omega))
  have kc0_16 := kc0_15.keep (belowSame hb16 (by omega))
  have kg0_16 := kg0_15.keep (belowSame hb16 (by omega))
  have kg1_16 := kg1_15.keep (belowSame hb16 (by omega))
  have kd0_16 := kd0_15.keep (belowSame hb16 (by omega))
  go_wp2_with fail
  refine (HI.out _ _ _ _ ke0_16 (by omega)).mono ?_
  rintro e w17 ⟨M2, vh0, vh1, rfl, kh0_17, kh1_17, hM3, hM4, hb17⟩
  have n17 := hb17.size
  have B17 := B16.trans (hb17.mono (by omega))
  have ka0_17 := ka0_16.keep (belowSame hb17 (by omega))
  have kw0_17 := kw0_16.keep (belowSame hb17 (by omega))
  have kw1_17 := kw1_16.keep (belowSame hb17 (by omega))
  have kc0_17 := kc0_16.keep (belowSame hb17 (by omega))
  have kg0_17 := kg0_16.keep (belowSame hb17 (by omega))
  have kg1_17 := kg1_16.keep (belowSame hb17 (by omega))
  have kd0_17 := kd0_16.keep (belowSame hb17 (by omega))
  have ke0_17 := ke0_16.keep (belowSame hb17 (by omega))
  go_wp2_with fail
  refine (eqIntS_in _ _ _ _ _ _ _ _ _ kh0_17 kw0_17).mono ?_
  rintro e w18 ⟨rfl, hb18⟩
  have n18 := hb18.size
  have B18 := B17.trans (hb18.mono (by omega))
  have ka0_18 := ka0_17.keep (belowSame hb18 (by omega))
  have kw0_18 := kw0_17.keep (belowSame hb18 (by omega))
  have kw1_18 := kw1_17.keep (belowSame hb18 (by omega))
  have kc0_18 := kc0_17.keep (belowSame hb18 (by omega))
  have kg0_18 := kg0_17.keep (belowSame hb18 (by omega))
  have kg1_18 := kg1_17.keep (belowSame hb18 (by omega))
  have kd0_18 := kd0_17.keep (belowSame hb18 (by omega))
  have ke0_18 := ke0_17.keep (belowSame hb18 (by omega))
  have kh0_18 := kh0_17.keep (belowSame hb18 (by omega))
  have kh1_18 := kh1_17.keep (belowSame hb18 (by omega))
  go_wp2_with fail
  refine (eqIntS_in _ _ _ _ _ _ _ _ _ kh1_18 kw1_18).mono ?_
  rintro e w19 ⟨rfl, hb19⟩
  have n19 := hb19.size
  have B19 := B18.trans (hb19.mono (by omega))
  have ka0_19 := ka0_18.keep (belowSame hb19 (by omega))
  have kw0_19 := kw0_18.keep (belowSame hb19 (by omega))
  have kw1_19 := kw1_18.keep (belowSame hb19 (by omega))
  have kc0_19 := kc0_18.keep (belowSame hb19 (by omega))
  have kg0_19 := kg0_18.keep (belowSame hb19 (by omega))
  have kg1_19 := kg1_18.keep (belowSame hb19 (by omega))
  have kd0_19 := kd0_18.keep (belowSame hb19 (by omega))
  have ke0_19 := ke0_18.keep (belowSame hb19 (by omega))
  have kh0_19 := kh0_18.keep (belowSame hb19 (by omega))
  have kh1_19 := kh1_18.keep (belowSame hb19 (by omega))
  go_wp2_with fail
  refine (heldIntS_in _ (1) x.length _ _ _ _ kg0_19 (by omega) (by omega) (by omega)).mono ?_
  rintro e w20 ⟨rfl, hb20⟩
  have n20 := hb20.size
  have B20 := B19.trans (hb20.mono (by omega))
  have ka0_20 := ka0_19.keep (belowSame hb20 (by omega))
  have kw0_20 := kw0_19.keep (belowSame hb20 (by omega))
  have kw1_20 := kw1_19.keep (belowSame hb20 (by omega))
  have kc0_20 := kc0_19.keep (belowSame hb20 (by omega))
  have kg0_20 := kg0_19.keep (belowSame hb20 (by omega))
  have kg1_20 := kg1_19.keep (belowSame hb20 (by omega))
  have kd0_20 := kd0_19.keep (belowSame hb20 (by omega))
  have ke0_20 := ke0_19.keep (belowSame hb20 (by omega))
  have kh0_20 := kh0_19.keep (belowSame hb20 (by omega))
  have kh1_20 := kh1_19.keep (belowSame hb20 (by omega))
  go_wp2_with fail
  refine (heldIntS_in _ (1 + (x.length : Int)) y.length _ _ _ _ kg1_20 (by omega) (by omega) (by omega)).mono ?_
  rintro e w21 ⟨rfl, hb21⟩
  have n21 := hb21.size
  have B21 := B20.trans (hb21.mono (by omega))
  have ka0_21 := ka0_20.keep (belowSame hb21 (by omega))
  have kw0_21 := kw0_20.keep (belowSame hb21 (by omega))
  have kw1_21 := kw1_20.keep (belowSame hb21 (by omega))
  have kc0_21 := kc0_20.keep (belowSame hb21 (by omega))
  have kg0_21 := kg0_20.keep (belowSame hb21 (by omega))
  have kg1_21 := kg1_20.keep (belowSame hb21 (by omega))
  have kd0_21 := kd0_20.keep (belowSame hb21 (by omega))
  have ke0_21 := ke0_20.keep (belowSame hb21 (by omega))
  have kh0_21 := kh0_20.keep (belowSame hb21 (by omega))
  have kh1_21 := kh1_20.keep (belowSame hb21 (by omega))
  go_wp2_with fail
  go_ret
  exact ⟨rfl, B21⟩

set_option maxHeartbeats 400000 in
theorem long0_TrainTurns (v : Value) (xs : List Int) (k : Int) (w : World) (hA0 : ArgI w v xs) (hn0 : ¬ xs.length ≤ 1048576) :
    Calls Try.prog 3 #[v, .int .i64 k] w fun e w' => e = .returned (.bool true) ∧ Below w.heap.size w w' := by
  obtain ⟨a00, cap0, a0, rfl, _, hm0, _⟩ := hA0
  unfold maxLen at *
  go_enter Try.func3, Try.ntmps3
  go_wp2
  go_ret
  exact ⟨rfl, by go_grown⟩

theorem walk_TrainTurns (v : Value) (xs : List Int) (k : Int) (w : World) (hA : ArgI w v xs) (_ : (Lit.int .i64 k).wf = true) :
    Calls Try.prog 3 #[v, .int .i64 k] w fun e w' => e = .returned (.bool true) ∧ Below w.heap.size w w' := by
  by_cases hn : xs.length ≤ 1048576
  · by_cases ht : Train xs ∧ -1000 ≤ k ∧ k ≤ 1000
    · have six := ht.1.1.2
      exact core_TrainTurns v xs k ((List.range xs.length).map (numT xs k)) ((List.range xs.length).map (denT xs k)) true w hA hn (by simp; omega) (by simp; omega) (fun W u B T h _ => sTrainTurns_yes u xs k W h.arg ht.1 ht.2) (fun W u B T h _ => iTrainTurns_yes u xs k W h.arg ht.1 ht.2)
    · exact core_TrainTurns v xs k [] [] false w hA hn (by simp) (by simp) (fun W u B T h _ => (sTrainTurns_no u xs k W h.arg hn ht).mono fun _ _ ⟨he, hb⟩ => ⟨_, _, he, IntsIn.nil _ _ _ _, IntsIn.nil _ _ _ _, hb⟩) (fun W u B T h _ => (iTrainTurns_no u xs k W h.arg ht).mono fun _ _ ⟨he, hb⟩ => ⟨W.heap.size, _, _, he, IntsIn.nil _ _ _ _, IntsIn.nil _ _ _ _, Nat.le_refl _, hb.size, hb⟩)
  · exact long0_TrainTurns v xs k w hA hn

end Go.Proofs.Ytnnhjnogebicbab
