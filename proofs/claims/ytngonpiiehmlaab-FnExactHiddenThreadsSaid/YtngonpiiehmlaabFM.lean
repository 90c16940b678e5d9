/- The highest thread at a place: the program, the model, and the law. -/
import Derived.Test.YtngonpiiehmlaabFL
import Derived.Test.YtngonpiiehmlaabUV
namespace Go.Proofs.Ytngonpiiehmlaab
open Go.RowKit
set_option linter.unusedVariables false

theorem ret_tmp4 {fn : Func} {t u v x : Tmp} (h : fn.results = #[.tmp t, .tmp u, .tmp v, .tmp x]) (tmps : Array Value) (P : Program) (w : World) :
    (results fn tmps).run P w = .ok (.tuple #[tmps.getD t undef, tmps.getD u undef, tmps.getD v undef, tmps.getD x undef]) w := by
  simp [results, h]

/-- What the answer at a place is. -/
def HiOut (xs : List (Int × Int)) (x : Int) (p q r : Int) (ok : Bool) : Prop :=
  ((∀ j, j < xs.length → reachP xs x j = false) ∧ p = 0 ∧ q = 0 ∧ r = 0 ∧ ok = false) ∨
  ∃ b : Nat, BestTo xs x xs.length b ∧ p = (b : Int) ∧ q = (lowA (hN xs x b) (hD xs b) : Nat) ∧ r = (lowB (hN xs x b) (hD xs b) : Nat) ∧ ok = true

theorem highestAt_out (u : Value) (xs : List (Int × Int)) (B T : Nat) (w : World) (h : PairsIn 55 w B T u xs) (hT : T ≤ w.heap.size) (x p q r : Int) (ok : Bool) (hg : goodT xs) (hx : 0 ≤ x) (ho : HiOut xs x p q r ok) :
    Calls Try.prog 41 #[u, .int .i64 x] w fun e w' => e = .returned (.tuple #[.int .i64 p, .agg #[.int .i64 q, .int .i64 r], .bool ok]) ∧ Below w.heap.size w w' := by
  rcases ho with ⟨hn, rfl, rfl, rfl, rfl⟩ | ⟨b, hb, rfl, rfl, rfl, rfl⟩
  · exact highestAt_none u xs B T w h hT x hg hx hn
  · exact highestAt_some u xs B T w h hT x b hg hx hb

set_option maxHeartbeats 1000000 in
theorem iHighestAt_yes (u : Value) (xs : List (Int × Int)) (B T : Nat) (w : World) (h : PairsIn 55 w B T u xs) (hT : T ≤ w.heap.size) (x p q r : Int) (ok : Bool) (hg : goodT xs) (hx : 0 ≤ x ∧ x ≤ 100) (ho : HiOut xs x p q r ok) :
    Calls Try.prog 12 #[u, .int .i64 x] w fun e w' => e = .returned (.tuple #[.int .i64 p, .int .i64 q, .int .i64 r, .bool ok]) ∧ Below w.heap.size w w' := by
  have HG := Lib.hid hg
  have HX := Lib.hid hx
  have HO := Lib.hid ho
  have HU := Lib.hid h
  obtain ⟨a1, c1, g1, rfl, _⟩ := h.pairs.view
  clear h hg hx ho
  go_enter Try.func12, Try.ntmps12
  go_wp2_with (first
    | (go_at_call 39; (with_reducible refine (AreThreads_yes _ _ B T _ HU.out HG.out).mono ?_); rintro e w1 ⟨rfl, hb1⟩; have HU1 := Lib.hid (HU.out.keep (belowSame hb1 hT)); have hz1 := hb1.size)
    | (go_at_call 40; (with_reducible refine (isPlace_yes _ _ HX.out).mono ?_); rintro e w1 ⟨rfl, rfl⟩)
    | (go_at_call 41; (refine (highestAt_out _ xs B T _ HU1.out (by omega) x p q r ok HG.out HX.out.1 HO.out).mono ?_); rintro e w2 ⟨rfl, hb2⟩; (have hB2 : Below w.heap.size w w2 := hb1.trans (hb2.mono hz1))))
  go_quiet (fail)
  go_wp2
  ((try simp only [Exit.inBlock, Exit.then]); refine bodyPost_ret (ret_tmp4 rfl _ _ _) rfl ?_)
  have hz2 : w.heap.size ≤ w2.heap.size := hB2.size
  exact ⟨by simp, bdn (by go_grown) _⟩

set_option maxHeartbeats 1000000 in
theorem iHighestAt_no (u : Value) (xs : List (Int × Int)) (B T : Nat) (w : World) (h : PairsIn 55 w B T u xs) (hT : T ≤ w.heap.size) (x : Int) (hb : ¬ (goodT xs ∧ (0 ≤ x ∧ x ≤ 100))) :
    Calls Try.prog 12 #[u, .int .i64 x] w fun e w' => e = .returned (.tuple #[.int .i64 0, .int .i64 0, .int .i64 0, .bool false]) ∧ Below w.heap.size w w' := by
  have HU := Lib.hid h
  obtain ⟨a1, c1, g1, rfl, _⟩ := h.pairs.view
  by_cases hg : goodT xs
  · have HG := Lib.hid hg
    have HX := Lib.hid (fun e => hb ⟨hg, e⟩)
    clear h hb hg
    go_enter Try.func12, Try.ntmps12
    go_wp2_with (first
      | (go_at_call 39; (with_reducible refine (AreThreads_yes _ _ B T _ HU.out HG.out).mono ?_); rintro e w1 ⟨rfl, hb1⟩)
      | (go_at_call 40; (with_reducible refine (isPlace_no _ _ HX.out).mono ?_); rintro e w1 ⟨rfl, rfl⟩)
      )
    ((try simp only [Exit.inBlock, Exit.then]); refine bodyPost_ret (ret_tmp4 rfl _ _ _) rfl ?_)
    exact ⟨rfl, hb1⟩
  · have HG := Lib.hid hg
    clear h hb hg
    go_enter Try.func12, Try.ntmps12
    go_wp2_with (first
      | (go_at_call 39; (with_reducible refine (AreThreads_no _ _ B T _ HU.out HG.out).mono ?_); rintro e w1 ⟨rfl, hb1⟩)
      )
    ((try simp only [Exit.inBlock, Exit.then]); refine bodyPost_ret (ret_tmp4 rfl _ _ _) rfl ?_)
    exact ⟨rfl, hb1⟩

set_option maxHeartbeats 1000000 in
theorem sHighestAt_no (u : Value) (xs : List (Int × Int)) (B T : Nat) (w : World) (h : PairsIn 55 w B T u xs) (hT : T ≤ w.heap.size) (x : Int) (hb : ¬ (goodT xs ∧ (0 ≤ x ∧ x ≤ 100))) :
    Calls Try.prog 10 #[u, .int .i64 x] w fun e w' => e = .returned (.tuple #[.int .i64 0, .int .i64 0, .int .i64 0, .bool false]) ∧ Below w.heap.size w w' := by
  have HU := Lib.hid h
  obtain ⟨a1, c1, g1, rfl, _⟩ := h.pairs.view
  by_cases hg : goodT xs
  · have HG := Lib.hid hg
    have HX := Lib.hid (fun e => hb ⟨hg, e⟩)
    clear h hb hg
    go_enter Try.func10, Try.ntmps10
    go_wp2_with (first
      | (go_at_call 35; (with_reducible refine (sgGood_yes _ _ B T _ HU.out HG.out).mono ?_); rintro e w1 ⟨rfl, hb1⟩)
      | (go_at_call 36; (with_reducible refine (l1In_no _ _ _ _ HX.out).mono ?_); rintro e w1 ⟨rfl, rfl⟩)
      )
    ((try simp only [Exit.inBlock, Exit.then]); refine bodyPost_ret (ret_tmp4 rfl _ _ _) rfl ?_)
    exact ⟨rfl, hb1⟩
  · have HG := Lib.hid hg
    clear h hb hg
    go_enter Try.func10, Try.ntmps10
    go_wp2_with (first
      | (go_at_call 35; (with_reducible refine (sgGood_no _ _ B T _ HU.out HG.out).mono ?_); rintro e w1 ⟨rfl, hb1⟩)
      )
    ((try simp only [Exit.inBlock, Exit.then]); refine bodyPost_ret (ret_tmp4 rfl _ _ _) rfl ?_)
    exact ⟨rfl, hb1⟩

theorem low_num {n d : Nat} (hd : 1 ≤ d) : lowA n d ≤ n ∧ lowB n d ≤ d := ⟨Nat.div_le_self _ _, Nat.div_le_self _ _⟩

theorem hi_wrap {P Q : Nat} (h1 : P ≤ 10000) (h2 : Q ≤ 100) : IntKind.i64.wrap ((P : Int) * (Q : Int)) = ((P * Q : Nat) : Int) := by
  have : P * Q ≤ 10000 * 100 := Nat.mul_le_mul h1 h2
  rw [IntKind.wrap_i64, ← Int.natCast_mul]
  omega

/-- How far the model's loop is. -/
def HiAt (xs : List (Int × Int)) (x : Int) (k : Nat) (c p q : Value) : Prop :=
  ((∀ j, j < k → reachP xs x j = false) ∧ c = .int .i64 (-1) ∧ p = .int .i64 0 ∧ q = .int .i64 1) ∨
  ∃ b P Q : Nat, BestTo xs x k b ∧ c = .int .i64 b ∧ p = .int .i64 P ∧ q = .int .i64 Q ∧ lowA (hN xs x b) (hD xs b) = P ∧ lowB (hN xs x b) (hD xs b) = Q

theorem HiAt.skip {xs : List (Int × Int)} {x : Int} {k : Nat} {c p q : Value} (h : HiAt xs x k c p q) (hr : reachP xs x k = false) : HiAt xs x (k + 1) c p q := by
  rcases h with ⟨hno, h1, h2, h3⟩ | ⟨b0, p0, q0, hbt, h1, h2, h3, hp0, hq0⟩
  · refine .inl ⟨fun j hj => ?_, h1, h2, h3⟩
    by_cases e : j = k
    · rw [e]; exact hr
    · exact hno j (by omega)
  · exact .inr ⟨b0, p0, q0, hbt.stay (fun e => by rw [hr] at e; cases e), h1, h2, h3, hp0, hq0⟩

set_option maxHeartbeats 4000000 in
theorem sHighestAt_yes (u : Value) (xs : List (Int × Int)) (B T : Nat) (w : World) (h : PairsIn 55 w B T u xs) (hT : T ≤ w.heap.size) (x p q r : Int) (ok : Bool) (hg : goodT xs) (hx : 0 ≤ x ∧ x ≤ 100) (ho : HiOut xs x p q r ok) :
    Calls Try.prog 10 #[u, .int .i64 x] w fun e w' => e = .returned (.tuple #[.int .i64 p, .int .i64 q, .int .i64 r, .bool ok]) ∧ Below w.heap.size w w' := by
  have HG := Lib.hid hg
  have HX := Lib.hid hx
  have hx1 := hx.1
  have hx2 := hx.2
  have HO := Lib.hid ho
  have HU := Lib.hid h
  have hn : xs.length ≤ 30 := hg.1.2
  obtain ⟨a1, c1, g1, rfl, ha1, hmm, hx1, hy1⟩ := h.pairs.view
  have X := Lib.hid hx1
  have Y := Lib.hid hy1
  have HA := Lib.hid ha1
  clear h hg hx ho ha1 hx1 hy1 hmm
  go_enter Try.func10, Try.ntmps10
  go_wp2_with (first
    | (go_at_call 35; (with_reducible refine (sgGood_yes _ _ B T _ HU.out HG.out).mono ?_); rintro e w0 ⟨rfl, hb0⟩)
    | (go_at_call 36; (with_reducible refine (l1In_yes _ _ _ _ HX.out).mono ?_); rintro e w1 ⟨rfl, rfl⟩))
  go_loopw [8, 9, 10, 25] (fun c p q i wr => ∃ k : Nat, k ≤ xs.length ∧ i = .int .i64 k ∧ HiAt xs x k c p q ∧ Below w.heap.size w wr) (fun _ _ _ i _ => xs.length - (intOf i).toNat)
  case atStart => exact ⟨0, by omega, rfl, .inl ⟨fun j hj => by omega, rfl, rfl, rfl⟩, hb0⟩
  case round =>
    obtain ⟨k, hk, rfl, hat, hB⟩ := hrel
    have hz := hB.size
    by_cases hlt : k < xs.length
    · obtain rfl := HA.out (by omega)
      obtain ⟨a, b, hab⟩ : ∃ a b, xs.getD k (0, 0) = (a, b) := ⟨_, _, rfl⟩
      have cx : wr.cell? ⟨g1, k * 2, none⟩ = _ := (hB.cell (p := ⟨g1, k * 2, none⟩) (World.block_lt_of_cell? w _ (X.out k hlt))).trans (X.out k hlt)
      have cy : wr.cell? ⟨g1, k * 2 + 1, none⟩ = _ := (hB.cell (p := ⟨g1, k * 2 + 1, none⟩) (World.block_lt_of_cell? w _ (Y.out k hlt))).trans (Y.out k hlt)
      rw [hab] at cx cy
      simp only at cx cy
      have hrk : reachP xs x k = decide (x ≤ a) := by unfold reachP; rw [hab]
      have k1 : 0 ≤ (k : Int) := by omega
      have k2 : (k : Int) < (xs.length : Int) := by omega
      by_cases hxa : x ≤ a
      · have hgm := HG.out.at k hlt
        rw [hab] at hgm
        have hh := fun W => sgHeight_any a b x W hgm ⟨HX.out.1, hxa⟩
        rw [show hgt a b x = hN xs x k by unfold hN; rw [hab], show a.toNat = hD xs k by unfold hD; rw [hab]] at hh
        have hr : reachP xs x k = true := by rw [hrk]; exact decide_eq_true hxa
        have hl1 := low_num (n := hN xs x k) (hD_pos HG.out k hlt)
        have hl2 := hN_le HG.out x HX.out.1 k hlt hr
        have hl3 := hD_le HG.out k hlt
        obtain ⟨P, hP⟩ : ∃ p, lowA (hN xs x k) (hD xs k) = p := ⟨_, rfl⟩
        obtain ⟨Q, hQ⟩ : ∃ p, lowB (hN xs x k) (hD xs k) = p := ⟨_, rfl⟩
        rw [hP, hQ] at hh hl1
        have l1 : P ≤ 10000 := by omega
        have l2 : Q ≤ 100 := by omega
        have HH := Lib.hid hh
        have HP := Lib.hid hP
        have HQ := Lib.hid hQ
        have HR := Lib.hid hr
        clear hh hgm hP hQ hl1 hl2 hl3 hr hrk hab
        rcases hat with ⟨hno, rfl, rfl, rfl⟩ | ⟨b0, p0, q0, hbt, rfl, rfl, rfl, hp0, hq0⟩
        · have HNO := Lib.hid hno
          clear hno
          go_wp2_with (first | (go_at_call 37; (with_reducible refine (HH.out _).mono ?_); rintro e w1 ⟨rfl, hb⟩; obtain ⟨hc, hf⟩ := bcell hb; (have hz : w.heap.size < w1.heap.size := by (have := hb.size; (try simp at this); omega)); (have hB : Below w.heap.size w w1 := by (refine Below.trans ?_ (hb.mono (by first | (simp; done) | omega | (simp; omega))); go_grown))))
          go_roundw
          case rel => exact ⟨k + 1, by omega, by go_num, .inr ⟨k, P, Q, BestTo.first HNO.out HR.out, rfl, rfl, rfl, HP.out, HQ.out⟩, by go_grown⟩
          case measure => simp [intOf]; omega
        · have hb0k : b0 < xs.length := by have := hbt.1; omega
          have m1 := low_num (n := hN xs x b0) (hD_pos HG.out b0 hb0k)
          have m2 := hN_le HG.out x HX.out.1 b0 hb0k hbt.2.1
          have m3 := hD_le HG.out b0 hb0k
          have hle := low_le (hN xs x k) (hD xs k) (hN xs x b0) (hD xs b0) (hD_pos HG.out k hlt) (hD_pos HG.out b0 hb0k)
          rw [hp0, hq0] at m1
          rw [hp0, hq0, HP.out, HQ.out] at hle
          have hw1 := hi_wrap l1 (show q0 ≤ 100 by omega)
          have hw2 := hi_wrap (show p0 ≤ 10000 by omega) l2
          have HBT := Lib.hid hbt
          have HP0 := Lib.hid hp0
          have HQ0 := Lib.hid hq0
          have HLE := Lib.hid hle
          obtain ⟨s1, hs1⟩ : ∃ s, P * q0 = s := ⟨_, rfl⟩
          obtain ⟨s2, hs2⟩ : ∃ s, p0 * Q = s := ⟨_, rfl⟩
          rw [hs1] at hw1
          rw [hs2] at hw2
          have HS1 := Lib.hid hs1
          have HS2 := Lib.hid hs2
          clear hbt hp0 hq0 hle m1 m2 m3 hs1 hs2
          by_cases hc : s2 < s1
          · go_wp2_with (first | (go_at_call 37; (with_reducible refine (HH.out _).mono ?_); rintro e w1 ⟨rfl, hb⟩; obtain ⟨hc, hf⟩ := bcell hb; (have hz : w.heap.size < w1.heap.size := by (have := hb.size; (try simp at this); omega)); (have hB : Below w.heap.size w w1 := by (refine Below.trans ?_ (hb.mono (by first | (simp; done) | omega | (simp; omega))); go_grown))))
            go_roundw
            case rel => exact ⟨k + 1, by omega, by go_num, .inr ⟨k, P, Q, HBT.out.up HG.out hlt HR.out (fun h => by have := HLE.out.1 h; have := HS1.out; have := HS2.out; omega), rfl, rfl, rfl, HP.out, HQ.out⟩, by go_grown⟩
            case measure => simp [intOf]; omega
          · go_wp2_with (first | (go_at_call 37; (with_reducible refine (HH.out _).mono ?_); rintro e w1 ⟨rfl, hb⟩; obtain ⟨hc, hf⟩ := bcell hb; (have hz : w.heap.size < w1.heap.size := by (have := hb.size; (try simp at this); omega)); (have hB : Below w.heap.size w w1 := by (refine Below.trans ?_ (hb.mono (by first | (simp; done) | omega | (simp; omega))); go_grown))))
            go_roundw
            case rel => exact ⟨k + 1, by omega, by go_num, .inr ⟨b0, p0, q0, HBT.out.stay (fun _ => HLE.out.2 (by have := HS1.out; have := HS2.out; omega)), rfl, rfl, rfl, HP0.out, HQ0.out⟩, by go_grown⟩
            case measure => simp [intOf]; omega
      · have hr : reachP xs x k = false := by rw [hrk]; exact decide_eq_false hxa
        have hat' := hat.skip hr
        have HAT := Lib.hid hat'
        clear hat hat' hr hrk hab
        go_wp2
        go_roundw
        case rel => exact ⟨k + 1, by omega, by go_num, HAT.out, by go_grown⟩
        case measure => simp [intOf]; omega
    · obtain rfl : k = xs.length := by omega
      rcases hat with ⟨hno, rfl, rfl, rfl⟩ | ⟨b0, p0, q0, hbt, rfl, rfl, rfl, hp0, hq0⟩
      · rcases HO.out with ⟨_, rfl, rfl, rfl, rfl⟩ | ⟨b, hb, _⟩
        · clear hno
          go_wp2
          ((try simp only [Exit.inBlock, Exit.then]); refine bodyPost_ret (ret_tmp4 rfl _ _ _) rfl ?_)
          exact ⟨rfl, hB⟩
        · have := hno b hb.1
          rw [hb.2.1] at this
          cases this
      · rcases HO.out with ⟨hno, _⟩ | ⟨b, hb, rfl, hq, hr, rfl⟩
        · have := hno b0 hbt.1
          rw [hbt.2.1] at this
          cases this
        · obtain rfl := hb.unique hbt
          rw [hp0] at hq
          rw [hq0] at hr
          subst hq hr
          clear hb hbt hp0 hq0
          go_wp2
          ((try simp only [Exit.inBlock, Exit.then]); refine bodyPost_ret (ret_tmp4 rfl _ _ _) rfl ?_)
          exact ⟨rfl, hB⟩

set_option maxHeartbeats 1000000 in
theorem core_HighestAt (v : Value) (xs : List (Int × Int)) (k : Int) (p : Int) (q : Int) (r : Int) (b : Bool) (w : World) (hA : ArgP w v xs) (hn : xs.length ≤ 1048576)
    (hs : ∀ (W : World) (u : Value) (B T : Nat), PairsIn 55 W B T u xs → T ≤ W.heap.size → Calls Try.prog 10 #[u, .int .i64 k] W (fun e w' => e = .returned (.tuple #[.int .i64 p, .int .i64 q, .int .i64 r, .bool b]) ∧ Below W.heap.size W w'))
    (hi : ∀ (W : World) (u : Value) (B T : Nat), PairsIn 55 W B T u xs → T ≤ W.heap.size → Calls Try.prog 12 #[u, .int .i64 k] W (fun e w' => e = .returned (.tuple #[.int .i64 p, .int .i64 q, .int .i64 r, .bool b]) ∧ Below W.heap.size W w')) :
    Calls Try.prog 3 #[v, .int .i64 k] w fun e w' => e = .returned (.bool true) ∧ Below w.heap.size w w' := by
  have hA1 := hA
  obtain ⟨a0, cap, a, rfl, _⟩ := hA1
  have HS := Lib.hid hs
  have HI := Lib.hid hi
  have HA := Lib.hid hA
  clear hs hi hA
  go_enter Try.func3, Try.ntmps3
  go_wp2_with fail
  refine (szThreadS_yes _ _ _ _ hn).mono ?_
  rintro e w0 ⟨rfl, rfl⟩
  go_wp2_with fail
  refine (toThreadS_any _ _ _ (HA.out.later (by go_grown)) hn).mono ?_
  rintro e w1 ⟨va, rfl, ka_1, hb1⟩
  have n1 : w.heap.size ≤ w1.heap.size := by have := hb1.size; (try simp at this); omega
  have B1 : Below w.heap.size w w1 := Below.trans (by go_grown) (hb1.mono (by first | (simp; done) | (simp; omega)))
  go_wp2_with fail
  refine (HS.out _ _ _ _ ka_1 (by omega)).mono ?_
  rintro e w2 ⟨rfl, hb2⟩
  have n2 := hb2.size
  have B2 := B1.trans (hb2.mono (by omega))
  have ka_2 := ka_1.keep (belowSame hb2 (by omega))
  go_wp2_with fail
  refine (toThreadS_any _ _ _ (HA.out.later B2) hn).mono ?_
  rintro e w3 ⟨vc, rfl, kc_3, hb3⟩
  have n3 := hb3.size
  have B3 := B2.trans (hb3.mono (by omega))
  have ka_3 := ka_2.keep (belowSame hb3 (by omega))
  go_wp2_with fail
  refine (HI.out _ _ _ _ kc_3 (by omega)).mono ?_
  rintro e w4 ⟨rfl, hb4⟩
  have n4 := hb4.size
  have B4 := B3.trans (hb4.mono (by omega))
  have ka_4 := ka_3.keep (belowSame hb4 (by omega))
  have kc_4 := kc_3.keep (belowSame hb4 (by omega))
  go_wp2_with fail
  refine (toThreadS_any _ _ _ (HA.out.later B4) hn).mono ?_
  rintro e w5 ⟨vd, rfl, kd_5, hb5⟩
  have n5 := hb5.size
  have B5 := B4.trans (hb5.mono (by omega))
  have ka_5 := ka_4.keep (belowSame hb5 (by omega))
  have kc_5 := kc_4.keep (belowSame hb5 (by omega))
  go_wp2_with fail
  refine (eqThreadS_in _ _ _ _ _ _ _ _ _ kc_5 kd_5).mono ?_
  rintro e w6 ⟨rfl, hb6⟩
  have n6 := hb6.size
  have B6 := B5.trans (hb6.mono (by omega))
  have ka_6 := ka_5.keep (belowSame hb6 (by omega))
  have kc_6 := kc_5.keep (belowSame hb6 (by omega))
  have kd_6 := kd_5.keep (belowSame hb6 (by omega))
  go_wp2_with fail
  go_ret
  exact ⟨rfl, B6⟩

set_option maxHeartbeats 400000 in
theorem long_HighestAt (v : Value) (xs : List (Int × Int)) (k : Int) (p : Int) (q : Int) (r : Int) (w : World) (hA : ArgP w v xs) (hn : ¬ xs.length ≤ 1048576) :
    Calls Try.prog 3 #[v, .int .i64 k] w fun e w' => e = .returned (.bool true) ∧ Below w.heap.size w w' := by
  obtain ⟨a0, cap, a, rfl, _, hm, _⟩ := hA
  go_enter Try.func3, Try.ntmps3
  go_wp2_with fail
  refine (szThreadS_no _ _ _ _ (by omega) hm).mono ?_
  rintro e w0 ⟨rfl, rfl⟩
  go_wp2_with fail
  go_ret
  exact ⟨rfl, by go_grown⟩

theorem walk_HighestAt (v : Value) (xs : List (Int × Int)) (k : Int) (w : World) (hA : ArgP w v xs) (_ : (Lit.int .i64 k).wf = true) :
    Calls Try.prog 3 #[v, .int .i64 k] w fun e w' => e = .returned (.bool true) ∧ Below w.heap.size w w' := by
  by_cases hn : xs.length ≤ 1048576
  · by_cases hg : goodT xs ∧ (0 ≤ k ∧ k ≤ 100)
    · obtain ⟨p, q, r, ok, ho⟩ : ∃ p q r ok, HiOut xs k p q r ok := by
        rcases best_or hg.1 k xs.length (Nat.le_refl _) with h | ⟨b, h⟩
        · exact ⟨0, 0, 0, false, .inl ⟨h, rfl, rfl, rfl, rfl⟩⟩
        · exact ⟨_, _, _, _, .inr ⟨b, h, rfl, rfl, rfl, rfl⟩⟩
      exact core_HighestAt v xs k p q r ok w hA hn (fun W u B T h hT => sHighestAt_yes u xs B T W h hT k p q r ok hg.1 hg.2 ho) (fun W u B T h hT => iHighestAt_yes u xs B T W h hT k p q r ok hg.1 hg.2 ho)
    · exact core_HighestAt v xs k 0 0 0 false w hA hn (fun W u B T h hT => sHighestAt_no u xs B T W h hT k hg) (fun W u B T h hT => iHighestAt_no u xs B T W h hT k hg)
  · exact long_HighestAt v xs k 0 0 0 w hA hn

end Go.Proofs.Ytngonpiiehmlaab
