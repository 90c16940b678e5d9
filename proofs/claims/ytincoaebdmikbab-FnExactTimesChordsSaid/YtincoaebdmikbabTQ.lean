/- Chords held against each other; the law of TimesChords. -/
import Derived.Test.YtincoaebdmikbabTP
import Derived.Test.YtincoaebdmikbabY5
import Derived.Shelf.SlicesE.Kit
import Derived.Laws.StructEq
namespace Go.Proofs.Ytincoaebdmikbab
open Go.RowKit
set_option linter.unusedVariables false

theorem eqlC (x1 y1 x2 y2 : Int) (w : World) : (binOp .eql 56 (.agg #[.int .i64 x1, .int .i64 y1]) (.agg #[.int .i64 x2, .int .i64 y2])).run Try.prog w = .ok (.bool (x1 == x2 && y1 == y2)) w ∧ (binOp .neq 56 (.agg #[.int .i64 x1, .int .i64 y1]) (.agg #[.int .i64 x2, .int .i64 y2])).run Try.prog w = .ok (.bool (!(x1 == x2 && y1 == y2))) w := by
  have u3 := Try.underlying3
  have a3 := Try.isAgg3
  have z3 := Try.sizeOf3
  have hS : Try.prog.underlying 56 = some (.struct (Try.prog.fieldsOf 56)) := by kernel_rfl
  have hp : Try.prog.stoodInHeld 56 = false := by kernel_rfl
  have h : (Op.equalIn (9999 + 1) 56 (.agg #[.int .i64 x1, .int .i64 y1]) (.agg #[.int .i64 x2, .int .i64 y2])).run Try.prog w = .ok (x1 == x2 && y1 == y2) w := by
    rw [run_equalIn_struct w 9999 56 _ _ hS hp]
    simp only [Program.fieldsOf, Try.underlying56]
    go_simp
    by_cases h1 : x1 = x2 <;> by_cases h2 : y1 = y2 <;> simp [h1, h2]
  constructor
  · simp only [binOp]
    simp [Op.equal, Op.maxDepth, h]
  · simp only [binOp]
    simp [Op.equal, Op.maxDepth, h]

set_option maxHeartbeats 2000000 in
theorem taSame_any (v1 v2 : Value) (xs ys : List (Int × Int)) (b : Bool) (B1 T1 B2 T2 : Nat) (w : World) (h1 : PairsIn 56 w B1 T1 v1 xs) (h2 : PairsIn 56 w B2 T2 v2 ys) (hn1 : xs.length ≤ 1000) (hn2 : ys.length ≤ 1000) (hb : decide (xs = ys) = b) :
    Calls Try.prog 44 #[v1, v2] w fun e w' => e = .returned (.bool b) ∧ Below w.heap.size w w' := by
  obtain ⟨a1, c1, g1, rfl, ha1, hm, hx1, hy1⟩ := h1.pairs.view
  obtain ⟨a2, c2, g2, rfl, ha2, _, hx2, hy2⟩ := h2.pairs.view
  clear h1 h2
  unfold maxLen at hm
  have X1 := Lib.hid hx1
  have X2 := Lib.hid hx2
  have Y1 := Lib.hid hy1
  have Y2 := Lib.hid hy2
  have HA1 := Lib.hid ha1
  have HA2 := Lib.hid ha2
  have HB := Lib.hid hb
  have hgd := fun (op : BinOp) (a b : Operand) (x y : Array Value) (w : World) => GuardAt.agg (P := Try.prog) (T := 56) (fun (x : Array Value) => x) (by kernel_rfl) op a b x y w
  clear hx1 hx2 hy1 hy2 ha1 ha2 hb
  by_cases hl : xs.length = ys.length
  · obtain ⟨n, hnn⟩ : ∃ n, n = xs.length := ⟨_, rfl⟩
    have HNN := Lib.hid hnn
    have HNL := Lib.hid (hnn.trans hl)
    rw [← hl] at X2 Y2 HA2 ⊢
    rw [← hnn] at X1 X2 Y1 Y2 HA1 HA2 hm hn1 ⊢
    clear hl hnn hn2
    go_enter Try.func44, Try.ntmps44
    go_wp2
    go_loopw [13] (fun i wr => ∃ k q : Nat, k ≤ n ∧ i = .int .i64 k ∧ Hid (∀ j, j < k → xs.getD j (0, 0) = ys.getD j (0, 0)) ∧ wr = w.drewN q) (fun i _ => n - (intOf i).toNat)
    case atStart => exact ⟨0, 0, by omega, rfl, Lib.hid (fun j hj => absurd hj (by omega)), rfl⟩
    case round =>
      obtain ⟨k, q, hk, rfl, HE, rfl⟩ := hrel
      by_cases hlt : k < n
      · obtain rfl := HA1.out (by omega)
        obtain rfl := HA2.out (by omega)
        obtain ⟨x1, y1, e1⟩ : ∃ x y, xs.getD k (0, 0) = (x, y) := ⟨_, _, rfl⟩
        obtain ⟨x2, y2, e2⟩ : ∃ x y, ys.getD k (0, 0) = (x, y) := ⟨_, _, rfl⟩
        have cx1 := X1.out k hlt
        have cx2 := X2.out k hlt
        have cy1 := Y1.out k hlt
        have cy2 := Y2.out k hlt
        rw [e1] at cx1 cy1
        rw [e2] at cx2 cy2
        simp only at cx1 cy1 cx2 cy2
        have hi1 : 0 ≤ (k : Int) := by omega
        have hi2 : (k : Int) < (n : Int) := by omega
        have HE1 := Lib.hid e1
        have HE2 := Lib.hid e2
        clear e1 e2
        by_cases hxy : x1 = x2 ∧ y1 = y2
        · have hne : ∀ W, (binOp .neq 56 (.agg #[.int .i64 x1, .int .i64 y1]) (.agg #[.int .i64 x2, .int .i64 y2])).run Try.prog W = .ok (.bool false) W := fun W => by
            rw [(eqlC x1 y1 x2 y2 W).2, hxy.1, hxy.2]; simp
          have HN : Hid (∀ j, j < k + 1 → xs.getD j (0, 0) = ys.getD j (0, 0)) := Lib.hid (fun j hj => by
            rcases Nat.lt_or_ge j k with h | h
            · exact HE.out j h
            · obtain rfl : j = k := by omega
              rw [HE1.out, HE2.out, hxy.1, hxy.2])
          clear hxy
          go_wp2
          go_quiet (fail)
          go_wp2
          go_roundw
          case rel => exact ⟨k + 1, q + nq, by omega, by go_num, HN, by simp⟩
          case measure => simp [intOf]; omega
        · have hne : ∀ W, (binOp .neq 56 (.agg #[.int .i64 x1, .int .i64 y1]) (.agg #[.int .i64 x2, .int .i64 y2])).run Try.prog W = .ok (.bool true) W := fun W => by
            rw [(eqlC x1 y1 x2 y2 W).2]
            have : (x1 == x2 && y1 == y2) = false := by
              rw [Bool.eq_false_iff]
              intro e
              rw [Bool.and_eq_true, beq_iff_eq, beq_iff_eq] at e
              exact hxy e
            rw [this]
            rfl
          obtain rfl : b = false := by
            rw [← HB.out, decide_eq_false_iff_not]
            intro e
            have := HE1.out
            rw [e, HE2.out] at this
            rw [Prod.mk.injEq] at this
            exact hxy ⟨this.1.symm, this.2.symm⟩
          clear hxy
          go_wp2
          go_quiet (fail)
          go_wp2
          go_ret
          exact ⟨rfl, by first | exact bdn (bdn (Below.refl _ _) _) _ | exact bdn (Below.refl _ _) _⟩
      · obtain rfl : k = n := by omega
        obtain rfl : b = true := by
          rw [← HB.out, decide_eq_true_eq]
          apply List.ext_getElem (by rw [← HNN.out, ← HNL.out])
          intro j h1 h2
          have := HE.out j (by rw [HNN.out]; exact h1)
          rw [List.getD, List.getD, List.getElem?_eq_getElem h1, List.getElem?_eq_getElem h2] at this
          exact this
        go_wp2
        go_ret
        exact ⟨rfl, bdn (Below.refl _ _) _⟩
  · obtain rfl : b = false := by
      rw [← HB.out, decide_eq_false_iff_not]
      rintro rfl
      exact hl rfl
    have hne : ((xs.length : Int) != (ys.length : Int)) = true := bne_iff_ne.2 (by omega)
    have heq : ((xs.length : Int) == (ys.length : Int)) = false := beq_eq_false_iff_ne.2 (by omega)
    go_enter Try.func44, Try.ntmps44
    go_wp2
    go_ret
    exact ⟨rfl, Below.refl _ _⟩

set_option maxHeartbeats 2000000 in
theorem equalC_any (v1 v2 : Value) (xs ys : List (Int × Int)) (b : Bool) (B1 T1 B2 T2 : Nat) (w : World) (h1 : PairsIn 56 w B1 T1 v1 xs) (h2 : PairsIn 56 w B2 T2 v2 ys) (hn1 : xs.length ≤ 1000) (hn2 : ys.length ≤ 1000) (hb : decide (xs = ys) = b) :
    Calls Try.prog 46 #[v1, v2] w fun e w' => e = .returned (.bool b) ∧ Below w.heap.size w w' := by
  obtain ⟨a1, c1, g1, rfl, ha1, hm, hx1, hy1⟩ := h1.pairs.view
  obtain ⟨a2, c2, g2, rfl, ha2, _, hx2, hy2⟩ := h2.pairs.view
  clear h1 h2
  unfold maxLen at hm
  have X1 := Lib.hid hx1
  have X2 := Lib.hid hx2
  have Y1 := Lib.hid hy1
  have Y2 := Lib.hid hy2
  have HA1 := Lib.hid ha1
  have HA2 := Lib.hid ha2
  have HB := Lib.hid hb
  have hgd := fun (op : BinOp) (a b : Operand) (x y : Array Value) (w : World) => GuardAt.agg (P := Try.prog) (T := 56) (fun (x : Array Value) => x) (by kernel_rfl) op a b x y w
  clear hx1 hx2 hy1 hy2 ha1 ha2 hb
  by_cases hl : xs.length = ys.length
  · obtain ⟨n, hnn⟩ : ∃ n, n = xs.length := ⟨_, rfl⟩
    have HNN := Lib.hid hnn
    have HNL := Lib.hid (hnn.trans hl)
    rw [← hl] at X2 Y2 HA2 ⊢
    rw [← hnn] at X1 X2 Y1 Y2 HA1 HA2 hm hn1 ⊢
    clear hl hnn hn2
    go_enter Try.func46, Try.ntmps46
    go_wp2
    go_loopw [13] (fun i wr => ∃ k q : Nat, k ≤ n ∧ i = .int .i64 k ∧ Hid (∀ j, j < k → xs.getD j (0, 0) = ys.getD j (0, 0)) ∧ wr = w.drewN q) (fun i _ => n - (intOf i).toNat)
    case atStart => exact ⟨0, 0, by omega, rfl, Lib.hid (fun j hj => absurd hj (by omega)), rfl⟩
    case round =>
      obtain ⟨k, q, hk, rfl, HE, rfl⟩ := hrel
      by_cases hlt : k < n
      · obtain rfl := HA1.out (by omega)
        obtain rfl := HA2.out (by omega)
        obtain ⟨x1, y1, e1⟩ : ∃ x y, xs.getD k (0, 0) = (x, y) := ⟨_, _, rfl⟩
        obtain ⟨x2, y2, e2⟩ : ∃ x y, ys.getD k (0, 0) = (x, y) := ⟨_, _, rfl⟩
        have cx1 := X1.out k hlt
        have cx2 := X2.out k hlt
        have cy1 := Y1.out k hlt
        have cy2 := Y2.out k hlt
        rw [e1] at cx1 cy1
        rw [e2] at cx2 cy2
        simp only at cx1 cy1 cx2 cy2
        have hi1 : 0 ≤ (k : Int) := by omega
        have hi2 : (k : Int) < (n : Int) := by omega
        have HE1 := Lib.hid e1
        have HE2 := Lib.hid e2
        clear e1 e2
        by_cases hxy : x1 = x2 ∧ y1 = y2
        · have hne : ∀ W, (binOp .neq 56 (.agg #[.int .i64 x1, .int .i64 y1]) (.agg #[.int .i64 x2, .int .i64 y2])).run Try.prog W = .ok (.bool false) W := fun W => by
            rw [(eqlC x1 y1 x2 y2 W).2, hxy.1, hxy.2]; simp
          have HN : Hid (∀ j, j < k + 1 → xs.getD j (0, 0) = ys.getD j (0, 0)) := Lib.hid (fun j hj => by
            rcases Nat.lt_or_ge j k with h | h
            · exact HE.out j h
            · obtain rfl : j = k := by omega
              rw [HE1.out, HE2.out, hxy.1, hxy.2])
          clear hxy
          go_wp2
          go_quiet (fail)
          go_wp2
          go_roundw
          case rel => exact ⟨k + 1, q + nq, by omega, by go_num, HN, by simp⟩
          case measure => simp [intOf]; omega
        · have hne : ∀ W, (binOp .neq 56 (.agg #[.int .i64 x1, .int .i64 y1]) (.agg #[.int .i64 x2, .int .i64 y2])).run Try.prog W = .ok (.bool true) W := fun W => by
            rw [(eqlC x1 y1 x2 y2 W).2]
            have : (x1 == x2 && y1 == y2) = false := by
              rw [Bool.eq_false_iff]
              intro e
              rw [Bool.and_eq_true, beq_iff_eq, beq_iff_eq] at e
              exact hxy e
            rw [this]
            rfl
          obtain rfl : b = false := by
            rw [← HB.out, decide_eq_false_iff_not]
            intro e
            have := HE1.out
            rw [e, HE2.out] at this
            rw [Prod.mk.injEq] at this
            exact hxy ⟨this.1.symm, this.2.symm⟩
          clear hxy
          go_wp2
          go_quiet (fail)
          go_wp2
          go_ret
          exact ⟨rfl, by first | exact bdn (bdn (Below.refl _ _) _) _ | exact bdn (Below.refl _ _) _⟩
      · obtain rfl : k = n := by omega
        obtain rfl : b = true := by
          rw [← HB.out, decide_eq_true_eq]
          apply List.ext_getElem (by rw [← HNN.out, ← HNL.out])
          intro j h1 h2
          have := HE.out j (by rw [HNN.out]; exact h1)
          rw [List.getD, List.getD, List.getElem?_eq_getElem h1, List.getElem?_eq_getElem h2] at this
          exact this
        go_wp2
        go_ret
        exact ⟨rfl, bdn (Below.refl _ _) _⟩
  · obtain rfl : b = false := by
      rw [← HB.out, decide_eq_false_iff_not]
      rintro rfl
      exact hl rfl
    have hne : ((xs.length : Int) != (ys.length : Int)) = true := bne_iff_ne.2 (by omega)
    have heq : ((xs.length : Int) == (ys.length : Int)) = false := beq_eq_false_iff_ne.2 (by omega)
    go_enter Try.func46, Try.ntmps46
    go_wp2
    go_ret
    exact ⟨rfl, Below.refl _ _⟩

set_option maxHeartbeats 400000 in
theorem core_TimesChords (p f : Int) (x : List (Int × Int))  (b : Bool) (w : World) (hx : x.length ≤ 1000000)
    (hs : ∀ W, Calls Try.prog 16 #[.int .i64 p, .int .i64 f] W (Gives (PairsIn 56) W x b)) (hi : ∀ W, Calls Try.prog 17 #[.int .i64 p, .int .i64 f] W (Gives (PairsIn 56) W x b)) :
    Calls Try.prog 5 #[.int .i64 p, .int .i64 f] w fun e w' => e = .returned (.bool true) ∧ Below w.heap.size w w' := by
  have HS := Lib.hid hs
  have HI := Lib.hid hi
  clear hs hi
  go_enter Try.func5, Try.ntmps5
  go_wp2_with fail
  refine (HS.out _).mono ?_
  rintro e w1 ⟨vw, rfl, kw_1, hb1⟩
  have n1 : w.heap.size ≤ w1.heap.size := by have := hb1.size; (try simp at this); omega
  have B1 : Below w.heap.size w w1 := Below.trans (by go_grown) (hb1.mono (by first | (simp; done) | (simp; omega)))
  go_wp2_with fail
  refine (HI.out _).mono ?_
  rintro e w2 ⟨vg, rfl, kg_2, hb2⟩
  have n2 := hb2.size
  have B2 := B1.trans (hb2.mono (by omega))
  have kw_2 := kw_1.keep (belowSame hb2 (by omega))
  go_wp2_with fail
  refine (eqChordS_in _ _ _ _ _ _ _ _ _ kg_2 kw_2).mono ?_
  rintro e w3 ⟨rfl, hb3⟩
  have n3 := hb3.size
  have B3 := B2.trans (hb3.mono (by omega))
  have kw_3 := kw_2.keep (belowSame hb3 (by omega))
  have kg_3 := kg_2.keep (belowSame hb3 (by omega))
  go_wp2_with fail
  refine (markChordS_in _ _ 1 _ _ _ _ kg_3 (by omega) (by omega) (by omega)).mono ?_
  rintro e w4 ⟨rfl, mg_4, o4⟩
  have n4 := o4.size
  have B4 := B3.trans (o4.below (C := w.heap.size) (by omega) (by omega))
  have kw_4 := kw_3.keep (o4.same_in (by omega) (by omega))
  have kg_4 := mg_4
  go_wp2_with fail
  refine (heldChordS_in _ 1 _ _ _ _ _ kg_4 (by omega) (by omega) (by omega)).mono ?_
  rintro e w5 ⟨rfl, hb5⟩
  have n5 := hb5.size
  have B5 := B4.trans (hb5.mono (by omega))
  have kw_5 := kw_4.keep (belowSame hb5 (by omega))
  have kg_5 := kg_4.keep (belowSame hb5 (by omega))
  go_wp2_with fail
  refine (HI.out _).mono ?_
  rintro e w6 ⟨vh, rfl, kh_6, hb6⟩
  have n6 := hb6.size
  have B6 := B5.trans (hb6.mono (by omega))
  have kw_6 := kw_5.keep (belowSame hb6 (by omega))
  have kg_6 := kg_5.keep (belowSame hb6 (by omega))
  go_wp2_with fail
  refine (eqChordS_in _ _ _ _ _ _ _ _ _ kh_6 kw_6).mono ?_
  rintro e w7 ⟨rfl, hb7⟩
  have n7 := hb7.size
  have B7 := B6.trans (hb7.mono (by omega))
  have kw_7 := kw_6.keep (belowSame hb7 (by omega))
  have kg_7 := kg_6.keep (belowSame hb7 (by omega))
  have kh_7 := kh_6.keep (belowSame hb7 (by omega))
  go_wp2_with fail
  refine (heldChordS_in _ 1 _ _ _ _ _ kg_7 (by omega) (by omega) (by omega)).mono ?_
  rintro e w8 ⟨rfl, hb8⟩
  have n8 := hb8.size
  have B8 := B7.trans (hb8.mono (by omega))
  have kw_8 := kw_7.keep (belowSame hb8 (by omega))
  have kg_8 := kg_7.keep (belowSame hb8 (by omega))
  have kh_8 := kh_7.keep (belowSame hb8 (by omega))
  go_wp2_with fail
  go_ret
  exact ⟨rfl, B8⟩

theorem walk_TimesChords (p f : Int) (w : World) (_ : (Lit.int .i64 p).wf = true) (_ : (Lit.int .i64 f).wf = true) :
    Calls Try.prog 5 #[.int .i64 p, .int .i64 f] w fun e w' => e = .returned (.bool true) ∧ Below w.heap.size w w' := by
  by_cases h : (3 ≤ p ∧ p ≤ 60) ∧ (0 ≤ f ∧ f < p)
  · obtain ⟨p, rfl⟩ := Int.eq_ofNat_of_zero_le (show 0 ≤ p by omega)
    obtain ⟨f, rfl⟩ := Int.eq_ofNat_of_zero_le (show 0 ≤ f by omega)
    have h1 : 3 ≤ p ∧ p ≤ 60 := by omega
    have h2 : f < p := by omega
    have hl := chordsF_length p f
    exact core_TimesChords _ _ (chordsF p f) true w (by omega) (fun W => sTimesChords_yes p f W h1 h2) (fun W => iTimesChords_yes p f W h1 h2)
  · exact core_TimesChords _ _ [] false w (by simp) (fun W => sTimesChords_no _ _ W h) (fun W => iTimesChords_no _ _ W h)

end Go.Proofs.Ytincoaebdmikbab
