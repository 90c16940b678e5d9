/- Gears: lists: meetings, cusps, wheels; the laws. -/
import Derived.Test.YtnnhjnogebicbaaE4
namespace Go.Proofs.Ytnnhjnogebicbaa
open Go.RowKit
set_option linter.unusedVariables false

theorem meeting_int {r k a : Nat} (h : (3 ≤ r ∧ r ≤ 300) ∧ (1 ≤ k ∧ k < r) ∧ a < r) : ((3 ≤ (r : Int) ∧ (r : Int) ≤ 300) ∧ (1 ≤ (k : Int) ∧ (k : Int) < r)) ∧ (0 ≤ (a : Int) ∧ (a : Int) < r) ∧ (0 ≤ (0 : Int) ∧ (0 : Int) < k) := by omega

/-! MeetingsOf -/
set_option maxHeartbeats 400000 in
theorem meetFn_any (r k a b g1 g2 g3 : Nat) (t : Bool) (w : World) (h : (3 ≤ r ∧ r ≤ 300) ∧ (1 ≤ k ∧ k < r) ∧ a < r) (hb : b < k) (h1 : w.cell? ⟨g1, 0, none⟩ = some (.int .i64 r)) (h2 : w.cell? ⟨g2, 0, none⟩ = some (.int .i64 k)) (h3 : w.cell? ⟨g3, 0, none⟩ = some (.int .i64 a)) (ht : (meetT r k a b).isSome = t) :
    Calls Try.prog 54 #[.int .i64 b, .pointer (some ⟨g1, 0, none⟩), .pointer (some ⟨g2, 0, none⟩), .pointer (some ⟨g3, 0, none⟩)] w fun e w' => e = .returned (.bool t) ∧ Below w.heap.size w w' := by
  have HD := Lib.hid (fun W => iDoMeet_yes r k a b W ⟨h.1, h.2.1, h.2.2, hb⟩)
  rw [ht] at HD
  clear ht
  go_enter Try.func54, Try.ntmps54
  go_wp2_with (go_at_call 26; (refine (HD.out _).mono ?_); rintro e w1 ⟨rfl, hb⟩)
  go_ret
  exact ⟨rfl, hb⟩

set_option maxHeartbeats 1000000 in
theorem where_meet (p : Nat) (r a g1 g2 g3 : Nat) (c : Nat → Bool) (w : World) (h : p ≤ 300) (h0 : (3 ≤ r ∧ r ≤ 300) ∧ (1 ≤ p ∧ p < r) ∧ a < r) (h1 : w.cell? ⟨g1, 0, none⟩ = some (.int .i64 r)) (h2 : w.cell? ⟨g2, 0, none⟩ = some (.int .i64 p)) (h3 : w.cell? ⟨g3, 0, none⟩ = some (.int .i64 a)) (hcd : ∀ k, k < p → (meetT r p a k).isSome = c k) :
    Calls Try.prog 53 #[.int .i64 p, .func (.func 54) #[] #[.pointer (some ⟨g1, 0, none⟩), .pointer (some ⟨g2, 0, none⟩), .pointer (some ⟨g3, 0, none⟩)]] w (GivesT w (selT c p)) := by
  have HCD := Lib.hid hcd
  have H1 := Lib.hid h1
  have H2 := Lib.hid h2
  have H3 := Lib.hid h3
  clear hcd h1 h2 h3
  go_enter Try.func53, Try.ntmps53
  go_wp2
  go_loopw [5, 8] (fun u i wr => ∃ k : Nat, k ≤ p ∧ i = .int .i64 k ∧ Ints wr w.heap.size 3 u (selT c k) ∧ Below w.heap.size w wr) (fun _ i _ => p - (intOf i).toNat)
  case atStart => exact ⟨0, by omega, rfl, World.ownsRow_nil _ _ _ _, Below.refl _ _⟩
  case round =>
    obtain ⟨k, hk, rfl, hI, hB⟩ := hrel
    have HI := Lib.hid hI
    have hz := hB.size
    clear hI
    by_cases hlt : k < p
    · have hlen := selT_length c k
      have K1 := Lib.hid ((hB.cell (p := ⟨g1, 0, none⟩) (World.block_lt_of_cell? w _ H1.out)).trans H1.out)
      have K2 := Lib.hid ((hB.cell (p := ⟨g2, 0, none⟩) (World.block_lt_of_cell? w _ H2.out)).trans H2.out)
      have K3 := Lib.hid ((hB.cell (p := ⟨g3, 0, none⟩) (World.block_lt_of_cell? w _ H3.out)).trans H3.out)
      cases hcb : c k with
      | true =>
        have HS := Lib.hid (selT_yes c k hcb)
        have HCB := Lib.hid hcb
        clear hcb
        go_wp2_with (first
          | (go_at_call 54; (refine (meetFn_any r p a k g1 g2 g3 true _ h0 hlt K1.out K2.out K3.out ((HCD.out k hlt).trans HCB.out)).mono ?_); rintro e w1 ⟨rfl, hb1⟩; have HI1 := Lib.hid (HI.out.later hb1); have hB1 := hB.trans (hb1.mono hz); have hz1 := hB1.size)
          | (at_builtin; refine wpList_append_int rfl _ _ 39 rfl (w.heap.size) 3 Try.underlying39 info_int _ _ rfl HI1.out (k : Int) rfl (by omega) (by omega) ?_; intro v' w' hI' hg'; have hB' := HI1.out.below hB1 hz1 hg'; rw [HS.out] at hI'; have HI' := Lib.hid hI'; clear hI'))
        go_roundw
        case rel => exact ⟨k + 1, by omega, by go_num, HI'.out, hB'⟩
        case measure => simp [intOf]; omega
      | false =>
        have HS := Lib.hid (selT_no c k hcb)
        have HCB := Lib.hid hcb
        clear hcb
        go_wp2_with (first
          | (go_at_call 54; (refine (meetFn_any r p a k g1 g2 g3 false _ h0 hlt K1.out K2.out K3.out ((HCD.out k hlt).trans HCB.out)).mono ?_); rintro e w1 ⟨rfl, hb1⟩; have HI1 := Lib.hid (HI.out.later hb1); have hB1 := hB.trans (hb1.mono hz)))
        go_roundw
        case rel => exact ⟨k + 1, by omega, by go_num, by rw [← HS.out]; exact HI1.out, hB1⟩
        case measure => simp [intOf]; omega
    · obtain rfl : k = p := by omega
      go_wp2
      go_ret
      exact ⟨_, rfl, HI.out, hB⟩

set_option maxHeartbeats 400000 in
theorem iMeetingsOf_yes (r k a : Nat) (w : World) (h : (3 ≤ r ∧ r ≤ 300) ∧ (1 ≤ k ∧ k < r) ∧ a < r) :
    Calls Try.prog 30 #[.int .i64 r, .int .i64 k, .int .i64 a] w (Gives (IntsIn 3) w (selT (fun b => (meetT r k a b).isSome) k) true) := by
  have g := meeting_int h
  go_enter Try.func30, Try.ntmps30
  go_wp2_with (first
    | (go_at_call 50; (with_reducible refine (isMeeting_yes _ _ _ _ _ g).mono ?_); rintro e w1 ⟨rfl, rfl⟩)
    | (go_at_call 53; (refine (where_meet k r a w.heap.size (w.heap.size + 1) (w.heap.size + 1 + 1) _ _ (by omega) h (by go_simp) (by go_simp) (by go_simp) (fun _ _ => rfl)).mono ?_); rintro e w2 ⟨v, rfl, hI, hb2⟩))
  go_ret2
  exact giveT true hI (by simp; omega) (Below.trans (by go_grown) (hb2.mono (by simp; omega)))

set_option maxHeartbeats 400000 in
theorem iMeetingsOf_no (r k a : Int) (w : World) (h : ¬ (((3 ≤ r ∧ r ≤ 300) ∧ (1 ≤ k ∧ k < r)) ∧ (0 ≤ a ∧ a < r))) :
    Calls Try.prog 30 #[.int .i64 r, .int .i64 k, .int .i64 a] w (Gives (IntsIn 3) w [] false) := by
  have h' : ¬ (((3 ≤ r ∧ r ≤ 300) ∧ (1 ≤ k ∧ k < r)) ∧ (0 ≤ a ∧ a < r) ∧ (0 ≤ (0 : Int) ∧ (0 : Int) < k)) := fun g => h ⟨g.1, g.2.1⟩
  go_enter Try.func30, Try.ntmps30
  go_wp2_with (first | (go_at_call 50; (with_reducible refine (isMeeting_no _ _ _ _ _ h').mono ?_); rintro e w1 ⟨rfl, rfl⟩))
  go_ret2
  exact giveNoT (by go_grown)

set_option maxHeartbeats 1000000 in
theorem sMeetingsOf_yes (r k a : Nat) (w : World) (h : (3 ≤ r ∧ r ≤ 300) ∧ (1 ≤ k ∧ k < r) ∧ a < r) :
    Calls Try.prog 29 #[.int .i64 r, .int .i64 k, .int .i64 a] w (Gives (IntsIn 3) w (selT (fun b => (meetT r k a b).isSome) k) true) := by
  have g := meeting_int h
  obtain ⟨c, hc⟩ : ∃ c, (fun b => (meetT r k a b).isSome) = c := ⟨_, rfl⟩
  rw [hc]
  have HC := Lib.hid hc
  clear hc
  go_enter Try.func29, Try.ntmps29
  go_wp2_with (first | (go_at_call 48; (with_reducible refine (geTeeth_yes _ _ _ _ _ g).mono ?_); rintro e w1 ⟨rfl, rfl⟩))
  go_loopw [8, 9] (fun u i wr => ∃ j : Nat, j ≤ k ∧ i = .int .i64 j ∧ Ints wr w.heap.size 3 u (selT c j) ∧ Below w.heap.size w wr) (fun _ i _ => k - (intOf i).toNat)
  case atStart => exact ⟨0, by omega, rfl, World.ownsRow_nil _ _ _ _, Below.refl _ _⟩
  case round =>
    obtain ⟨j, hj, rfl, hI, hB⟩ := hrel
    have HI := Lib.hid hI
    have hz := hB.size
    clear hI
    by_cases hlt : j < k
    · have hlen := selT_length c j
      have hm := fun W => geMeet_any r k a j W ⟨h.1, h.2.1, h.2.2, hlt⟩
      obtain ⟨o, ho⟩ : ∃ o, meetT r k a j = o := ⟨_, rfl⟩
      rw [ho] at hm
      have HM := Lib.hid hm
      have hcj : c j = o.isSome := by rw [← HC.out, ← ho]
      clear hm ho
      cases o with
      | some i =>
        have HS := Lib.hid (selT_yes c j (by rw [hcj]; rfl))
        obtain ⟨x, hx⟩ : ∃ x, a + i * r = x := ⟨_, rfl⟩
        have HX := Lib.hid hx
        clear hx hcj
        have x0 : 0 ≤ (x : Int) := by omega
        go_wp2_with (first
          | (go_at_call 49; (refine (HM.out _).mono ?_); rintro e w1 ⟨rfl, rfl⟩; dsimp only [stepM]; rw [HX.out])
          | (at_builtin; refine wpList_append_int rfl _ _ 39 rfl (w.heap.size) 3 Try.underlying39 info_int _ _ rfl HI.out (j : Int) rfl (by omega) (by omega) ?_; intro v' w' hI' hg'; have hB' := HI.out.below hB hz hg'; rw [HS.out] at hI'; have HI' := Lib.hid hI'; clear hI'))
        go_roundw
        case rel => exact ⟨j + 1, by omega, by go_num, HI'.out, hB'⟩
        case measure => simp [intOf]; omega
      | none =>
        have HS := Lib.hid (selT_no c j (by rw [hcj]; rfl))
        clear hcj
        go_wp2_with (first
          | (go_at_call 49; (refine (HM.out _).mono ?_); rintro e w1 ⟨rfl, rfl⟩; dsimp only [stepM]))
        go_roundw
        case rel => exact ⟨j + 1, by omega, by go_num, by rw [← HS.out]; exact HI.out, hB⟩
        case measure => simp [intOf]; omega
    · obtain rfl : j = k := by omega
      go_wp2
      go_ret2
      exact giveT true HI.out (Nat.le_refl _) hB

set_option maxHeartbeats 400000 in
theorem sMeetingsOf_no (r k a : Int) (w : World) (h : ¬ (((3 ≤ r ∧ r ≤ 300) ∧ (1 ≤ k ∧ k < r)) ∧ (0 ≤ a ∧ a < r))) :
    Calls Try.prog 29 #[.int .i64 r, .int .i64 k, .int .i64 a] w (Gives (IntsIn 3) w [] false) := by
  have h' : ¬ (((3 ≤ r ∧ r ≤ 300) ∧ (1 ≤ k ∧ k < r)) ∧ (0 ≤ a ∧ a < r) ∧ (0 ≤ (0 : Int) ∧ (0 : Int) < k)) := fun g => h ⟨g.1, g.2.1⟩
  go_enter Try.func29, Try.ntmps29
  go_wp2_with (first | (go_at_call 48; (with_reducible refine (geTeeth_no _ _ _ _ _ h').mono ?_); rintro e w1 ⟨rfl, rfl⟩))
  go_ret2
  exact giveNoT (Below.refl _ _)

/-! CuspsOf -/
set_option maxHeartbeats 1000000 in
theorem iCuspsOf_yes (r k g a b : Nat) (w : World) (H : Gear r k g a b) :
    Calls Try.prog 35 #[.int .i64 r, .int .i64 k] w (Gives (IntsIn 3) w (cuspL r k a) true) := by
  have h := H.1
  have a1 : a ≤ 300 := H.2.2.2.2.2.2.1
  have i1 : (r : Int) ≤ 300 := by omega
  have i2 : (k : Int) ≤ 300 := by omega
  have i3 : 3 ≤ (r : Int) := by omega
  have hmk := make_ints (P := Try.prog) Try.underlying39 info_int a (by omega)
  have HP := Lib.hid (fun W => iPetalsOf_yes r k g a b W H)
  clear H
  have f : (fun (i : Nat) => ((i * k % r : Nat) : Int)) = fun i => ((i * k % r : Nat) : Int) := rfl
  go_enter Try.func35, Try.ntmps35
  go_wp2_with (first | (go_at_call 15; (with_reducible refine (HP.out _).mono ?_); rintro e w1 ⟨rfl, hb⟩))
  have hz1 := hb.size
  go_loopw [22] (fun i wr => ∃ j : Nat, j ≤ a ∧ i = .int .i64 j ∧ Ints wr w.heap.size 3 (.slice (some ⟨w1.heap.size, 0, none⟩) a a) (fillTo (fun i => ((i * k % r : Nat) : Int)) a j) ∧ Below w.heap.size w wr) (fun i _ => a - (intOf i).toNat)
  case atStart => exact ⟨0, by omega, rfl, by rw [fillTo_zero]; exact Ints.made w1 w.heap.size _ a hz1 (by omega), hb.trans (Below.mono (show Below w1.heap.size w1 _ from by go_grown) hz1)⟩
  case round =>
    obtain ⟨j, hj, rfl, hI, hB⟩ := hrel
    by_cases hlt : j < a
    · obtain ⟨q, hq⟩ : ∃ q, j * k = q := ⟨_, rfl⟩
      have q1 : q ≤ 90000 := by rw [← hq]; exact mul_bd300 (by omega) (by omega)
      have q2 : (j : Int) * (k : Int) = (q : Int) := by rw [← hq]; simp
      have HF := Lib.hid (fillTo_set (fun i => ((i * k % r : Nat) : Int)) a j hlt)
      have HQ := Lib.hid hq
      clear hq
      have hl := fillTo_length (fun i => ((i * k % r : Nat) : Int)) a j hj
      have HS := Lib.hid (hI.stored j ((q : Int) % (r : Int)))
      have d0 := hI.cellAt j (by rw [hl]; omega)
      have f0 := hI.frozenAt j
      have HB3 := Lib.hid (hI.below hB hB.size HS.out.2)
      generalize (fillTo (fun i => ((i * k % r : Nat) : Int)) a j).getD j 0 = old at d0
      clear hI hB hl
      go_wp2
      go_roundw
      case rel => exact ⟨j + 1, by omega, by go_num, by rw [← HF.out]; have := HS.out.1; rw [show (q : Int) % (r : Int) = ((j * k % r : Nat) : Int) by rw [HQ.out]; simp] at this; (try rw [show (q : Int) % (r : Int) = ((j * k % r : Nat) : Int) by rw [HQ.out]; simp]); exact this, HB3.out⟩
      case measure => simp [intOf]; omega
    · obtain rfl : j = a := by omega
      rw [fillTo_all] at hI
      go_wp2
      go_ret2
      exact giveT true hI (Nat.le_refl _) hB

set_option maxHeartbeats 400000 in
theorem iCuspsOf_no (r k : Int) (w : World) (h : ¬ ((3 ≤ r ∧ r ≤ 300) ∧ (1 ≤ k ∧ k < r))) :
    Calls Try.prog 35 #[.int .i64 r, .int .i64 k] w (Gives (IntsIn 3) w [] false) := by
  go_enter Try.func35, Try.ntmps35
  go_wp2_with (first | (go_at_call 15; (with_reducible refine (iPetalsOf_no _ _ _ h).mono ?_); rintro e w1 ⟨rfl, hb⟩))
  go_ret2
  exact giveNoT hb

set_option maxHeartbeats 1000000 in
theorem geCusps_any (r k g a b : Nat) (w : World) (H : Gear r k g a b) :
    Calls Try.prog 55 #[.int .i64 r, .int .i64 k] w (GivesT w (cuspL r k a)) := by
  obtain ⟨h, hg, g1, g2, b1, c1, a1, e1, e2, e3, e4, hr, hk, hab⟩ := H
  have i1 : (r : Int) ≤ 300 := by omega
  have i2 : (k : Int) ≤ 300 := by omega
  have i3 : 3 ≤ (r : Int) := by omega
  have HNE := Lib.hid (fun i => cusp_ne r k g a b i hr hk g1 hab)
  have HEND := Lib.hid (cusp_end r k g a b hr hk)
  have H1 := Lib.hid (show 1 * k % r = k by rw [Nat.one_mul, Nat.mod_eq_of_lt (by omega)])
  clear e1 e2 e3 e4 hr hk hab hg
  have hI0 : Ints (w.alloc (.cells #[.int .i64 0] 3)) w.heap.size 3 (.slice (some ⟨w.heap.size, 0, none⟩) 1 1) (cuspL r k 1) := by
    have := Ints.boxed w w.heap.size 3 [0] (Nat.le_refl _) (by simp)
    simpa [cuspL, List.range_succ] using this
  have HB0 := Lib.hid hI0
  clear hI0
  go_enter Try.func55, Try.ntmps55
  go_wp2
  go_loopw [5, 6] (fun u x wr => ∃ j q : Nat, 1 ≤ j ∧ j ≤ a ∧ x = .int .i64 q ∧ q < r ∧ Hid (j * k % r = q) ∧ Ints wr w.heap.size 3 u (cuspL r k j) ∧ Below w.heap.size w wr) (fun u _ _ => match u with | .slice _ l _ => a - l | _ => 0)
  case atStart => exact ⟨1, k, by omega, by omega, rfl, by omega, H1, HB0.out, by go_grown⟩
  case round =>
    obtain ⟨j, q, hj1, hj, rfl, hq, HQ, hI, hB⟩ := hrel
    have hz := hB.size
    have HI := Lib.hid hI
    have HL := Lib.hid (cuspL_length r k j)
    clear hI
    by_cases hlt : j < a
    · have hq0 : ((q : Int) != 0) = true := bne_iff_ne.2 (by have := HNE.out j hj1 hlt; rw [HQ.out] at this; omega)
      have HSN := Lib.hid (show cuspL r k j ++ [(q : Int)] = cuspL r k (j + 1) by rw [← HQ.out]; exact cuspL_succ r k j)
      obtain ⟨q', hq'⟩ : ∃ q', (q + k) % r = q' := ⟨_, rfl⟩
      have q1 : ((q : Int) + (k : Int)) % (r : Int) = (q' : Int) := by rw [← hq']; simp
      have q2 : q' < r := by rw [← hq']; exact Nat.mod_lt _ (by omega)
      have HQ' := Lib.hid (show (j + 1) * k % r = q' by rw [← hq', ← HQ.out]; exact (cusp_next r k j).symm)
      clear hq'
      go_wp2_with (at_builtin; refine wpList_append_int rfl _ _ 39 rfl w.heap.size 3 Try.underlying39 info_int _ _ rfl HI.out q rfl (by rw [HL.out]; omega) (by omega) ?_; intro v' w' hI' hg'; have hB' := HI.out.below hB hz hg'; clear hB; rw [HSN.out] at hI'; have HI' := Lib.hid hI'; clear hI')
      go_roundw
      case rel => exact ⟨j + 1, q', by omega, by omega, by first | rfl | rw [q1], q2, HQ', HI'.out, hB'⟩
      case measure =>
        obtain ⟨_, _, _, rfl, _⟩ := HI'.out.view
        obtain ⟨_, _, _, rfl, _⟩ := HI.out.view
        simp only [cuspL_length]
        omega
    · obtain rfl : j = a := by omega
      have q0 : q = 0 := by rw [← HQ.out]; exact HEND.out
      subst q0
      go_wp2
      go_ret
      exact ⟨_, rfl, HI.out, hB⟩

set_option maxHeartbeats 400000 in
theorem sCuspsOf_yes (r k g a b : Nat) (w : World) (H : Gear r k g a b) :
    Calls Try.prog 34 #[.int .i64 r, .int .i64 k] w (Gives (IntsIn 3) w (cuspL r k a) true) := by
  have h := H.1
  have HC := Lib.hid (fun W => geCusps_any r k g a b W H)
  clear H
  go_enter Try.func34, Try.ntmps34
  go_wp2_with (first | (go_at_call 40; (with_reducible refine (geGood_yes _ _ _ h).mono ?_); rintro e w1 ⟨rfl, rfl⟩) | (go_at_call 55; (refine (HC.out _).mono ?_); rintro e w1 ⟨v, rfl, hI, hb⟩))
  go_ret2
  exact giveT true hI (Nat.le_refl _) hb

set_option maxHeartbeats 400000 in
theorem sCuspsOf_no (r k : Int) (w : World) (h : ¬ ((3 ≤ r ∧ r ≤ 300) ∧ (1 ≤ k ∧ k < r))) :
    Calls Try.prog 34 #[.int .i64 r, .int .i64 k] w (Gives (IntsIn 3) w [] false) := by
  go_enter Try.func34, Try.ntmps34
  go_wp2_with (first | (go_at_call 40; (with_reducible refine (geGood_no _ _ _ h).mono ?_); rintro e w1 ⟨rfl, rfl⟩))
  go_ret2
  exact giveNoT (Below.refl _ _)

/-! WheelsFor -/
theorem quoN {r g a : Nat} (h : r = g * a) (hg : 1 ≤ g) : r / g = a := by subst h; exact Nat.mul_div_cancel_left a hg

/-- Whether a wheel has so many petals. -/
def wheelC (r q k : Nat) : Bool := decide (1 ≤ k) && (r / Nat.gcd r k == q)

set_option maxHeartbeats 400000 in
theorem wheelFn_any (r q k g1 g2 : Nat) (t : Bool) (w : World) (h : 3 ≤ r ∧ r ≤ 300) (hk : k < r) (h1 : w.cell? ⟨g1, 0, none⟩ = some (.int .i64 r)) (h2 : w.cell? ⟨g2, 0, none⟩ = some (.int .i64 q)) (ht : wheelC r q k = t) :
    Calls Try.prog 57 #[.int .i64 k, .pointer (some ⟨g1, 0, none⟩), .pointer (some ⟨g2, 0, none⟩)] w fun e w' => e = .returned (.bool t) ∧ Below w.heap.size w w' := by
  by_cases h0 : 1 ≤ k
  · obtain ⟨r', k', g, a, b, e1, e2, H⟩ := gear_of r k (by omega)
    obtain rfl : r' = r := by omega
    obtain rfl : k' = k := by omega
    have ht' : ((a : Int) == (q : Int)) = t := by
      have h3 := H.2.1
      have h4 := H.2.2.2.2.2.2.2.2.2.2.2.1
      have h5 : r' / Nat.gcd r' k' = a := by rw [h3]; exact quoN h4 H.2.2.1
      rw [← ht, wheelC, h5]
      simp only [h0, decide_true, Bool.true_and]
      rw [Bool.eq_iff_iff, beq_iff_eq, beq_iff_eq]
      omega
    have HP := Lib.hid (fun W => iPetalsOf_yes r' k' g a b W H)
    have C2 := Lib.hid h2
    clear H ht h2
    go_enter Try.func57, Try.ntmps57
    cases t
    all_goals
      go_wp2_with (go_at_call 15; (refine (HP.out _).mono ?_); rintro e w1 ⟨rfl, hb⟩; have c2 := (hb.cell (p := ⟨g2, 0, none⟩) (World.block_lt_of_cell? w _ C2.out)).trans C2.out)
      go_ret
      exact ⟨by simp, hb⟩
  · obtain rfl : k = 0 := by omega
    obtain rfl : t = false := by rw [← ht]; rfl
    go_enter Try.func57, Try.ntmps57
    go_wp2_with (go_at_call 15; (refine (iPetalsOf_no _ _ _ (by omega)).mono ?_); rintro e w1 ⟨rfl, hb⟩)
    go_ret
    exact ⟨rfl, hb⟩

set_option maxHeartbeats 1000000 in
theorem where_wheel (p : Nat) (q g1 g2 : Nat) (c : Nat → Bool) (w : World) (h : 3 ≤ p ∧ p ≤ 300) (h1 : w.cell? ⟨g1, 0, none⟩ = some (.int .i64 p)) (h2 : w.cell? ⟨g2, 0, none⟩ = some (.int .i64 q)) (hcd : ∀ k, k < p → wheelC p q k = c k) :
    Calls Try.prog 53 #[.int .i64 p, .func (.func 57) #[] #[.pointer (some ⟨g1, 0, none⟩), .pointer (some ⟨g2, 0, none⟩)]] w (GivesT w (selT c p)) := by
  have HCD := Lib.hid hcd
  have H1 := Lib.hid h1
  have H2 := Lib.hid h2
  clear hcd h1 h2
  go_enter Try.func53, Try.ntmps53
  go_wp2
  go_loopw [5, 8] (fun u i wr => ∃ k : Nat, k ≤ p ∧ i = .int .i64 k ∧ Ints wr w.heap.size 3 u (selT c k) ∧ Below w.heap.size w wr) (fun _ i _ => p - (intOf i).toNat)
  case atStart => exact ⟨0, by omega, rfl, World.ownsRow_nil _ _ _ _, Below.refl _ _⟩
  case round =>
    obtain ⟨k, hk, rfl, hI, hB⟩ := hrel
    have HI := Lib.hid hI
    have hz := hB.size
    clear hI
    by_cases hlt : k < p
    · have hlen := selT_length c k
      have K1 := Lib.hid ((hB.cell (p := ⟨g1, 0, none⟩) (World.block_lt_of_cell? w _ H1.out)).trans H1.out)
      have K2 := Lib.hid ((hB.cell (p := ⟨g2, 0, none⟩) (World.block_lt_of_cell? w _ H2.out)).trans H2.out)
      cases hcb : c k with
      | true =>
        have HS := Lib.hid (selT_yes c k hcb)
        have HCB := Lib.hid hcb
        clear hcb
        go_wp2_with (first
          | (go_at_call 57; (refine (wheelFn_any p q k g1 g2 true _ h hlt K1.out K2.out ((HCD.out k hlt).trans HCB.out)).mono ?_); rintro e w1 ⟨rfl, hb1⟩; have HI1 := Lib.hid (HI.out.later hb1); have hB1 := hB.trans (hb1.mono hz); have hz1 := hB1.size)
          | (at_builtin; refine wpList_append_int rfl _ _ 39 rfl (w.heap.size) 3 Try.underlying39 info_int _ _ rfl HI1.out (k : Int) rfl (by omega) (by omega) ?_; intro v' w' hI' hg'; have hB' := HI1.out.below hB1 hz1 hg'; rw [HS.out] at hI'; have HI' := Lib.hid hI'; clear hI'))
        go_roundw
        case rel => exact ⟨k + 1, by omega, by go_num, HI'.out, hB'⟩
        case measure => simp [intOf]; omega
      | false =>
        have HS := Lib.hid (selT_no c k hcb)
        have HCB := Lib.hid hcb
        clear hcb
        go_wp2_with (first
          | (go_at_call 57; (refine (wheelFn_any p q k g1 g2 false _ h hlt K1.out K2.out ((HCD.out k hlt).trans HCB.out)).mono ?_); rintro e w1 ⟨rfl, hb1⟩; have HI1 := Lib.hid (HI.out.later hb1); have hB1 := hB.trans (hb1.mono hz)))
        go_roundw
        case rel => exact ⟨k + 1, by omega, by go_num, by rw [← HS.out]; exact HI1.out, hB1⟩
        case measure => simp [intOf]; omega
    · obtain rfl : k = p := by omega
      go_wp2
      go_ret
      exact ⟨_, rfl, HI.out, hB⟩

set_option maxHeartbeats 400000 in
theorem iWheelsFor_yes (r q : Nat) (w : World) (h : (3 ≤ r ∧ r ≤ 300) ∧ (1 ≤ q ∧ q ≤ 300)) :
    Calls Try.prog 37 #[.int .i64 r, .int .i64 q] w (Gives (IntsIn 3) w (selT (wheelC r q) r) true) := by
  have q1 : 1 ≤ (q : Int) := by omega
  have q2 : (q : Int) ≤ 300 := by omega
  go_enter Try.func37, Try.ntmps37
  go_wp2_with (first
    | (go_at_call 56; (with_reducible refine (isRing_yes _ _ (by omega)).mono ?_); rintro e w1 ⟨rfl, rfl⟩)
    | (go_at_call 53; (refine (where_wheel r q w.heap.size (w.heap.size + 1) _ _ h.1 (by go_simp) (by go_simp) (fun _ _ => rfl)).mono ?_); rintro e w2 ⟨v, rfl, hI, hb2⟩))
  go_ret2
  exact giveT true hI (by simp; omega) (Below.trans (by go_grown) (hb2.mono (by simp; omega)))

set_option maxHeartbeats 400000 in
theorem iWheelsFor_no (r q : Int) (w : World) (h : ¬ ((3 ≤ r ∧ r ≤ 300) ∧ (1 ≤ q ∧ q ≤ 300))) :
    Calls Try.prog 37 #[.int .i64 r, .int .i64 q] w (Gives (IntsIn 3) w [] false) := by
  by_cases h1 : 3 ≤ r ∧ r ≤ 300
  · by_cases h2 : 1 ≤ q
    · have h3 : 300 < q := by omega
      clear h
      go_enter Try.func37, Try.ntmps37
      go_wp2_with (first | (go_at_call 56; (with_reducible refine (isRing_yes _ _ h1).mono ?_); rintro e w1 ⟨rfl, rfl⟩))
      go_ret2
      exact giveNoT (by go_grown)
    · have h3 : q < 1 := by omega
      clear h h2
      go_enter Try.func37, Try.ntmps37
      go_wp2_with (first | (go_at_call 56; (with_reducible refine (isRing_yes _ _ h1).mono ?_); rintro e w1 ⟨rfl, rfl⟩))
      go_ret2
      exact giveNoT (by go_grown)
  · clear h
    go_enter Try.func37, Try.ntmps37
    go_wp2_with (first | (go_at_call 56; (with_reducible refine (isRing_no _ _ h1).mono ?_); rintro e w1 ⟨rfl, rfl⟩))
    go_ret2
    exact giveNoT (by go_grown)

set_option maxHeartbeats 1000000 in
theorem sWheelsFor_yes (r q : Nat) (w : World) (h : (3 ≤ r ∧ r ≤ 300) ∧ (1 ≤ q ∧ q ≤ 300)) :
    Calls Try.prog 36 #[.int .i64 r, .int .i64 q] w (Gives (IntsIn 3) w (selT (wheelC r q) r) true) := by
  obtain ⟨⟨r1, r2⟩, ⟨q1, q2⟩⟩ := h
  go_enter Try.func36, Try.ntmps36
  go_wp2_with (first | (go_at_call 44; (with_reducible refine (l1In_yes _ _ _ _ (by omega)).mono ?_); rintro e w1 ⟨rfl, rfl⟩))
  go_loopw [6, 7] (fun u i wr => ∃ j : Nat, 1 ≤ j ∧ j ≤ r ∧ i = .int .i64 j ∧ Ints wr w.heap.size 3 u (selT (wheelC r q) j) ∧ Below w.heap.size w wr) (fun _ i _ => r - (intOf i).toNat)
  case atStart => exact ⟨1, by omega, by omega, rfl, World.ownsRow_nil _ _ _ _, Below.refl _ _⟩
  case round =>
    obtain ⟨j, hj1, hj, rfl, hI, hB⟩ := hrel
    have HI := Lib.hid hI
    have hz := hB.size
    clear hI
    by_cases hlt : j < r
    · have hlen := selT_length (wheelC r q) j
      obtain ⟨r', k', g, a, b, e1, e2, H⟩ := gear_of r j (by omega)
      obtain rfl : r' = r := by omega
      obtain rfl : k' = j := by omega
      have h3 := H.2.1
      have h4 := H.2.2.2.2.2.2.2.2.2.2.2.1
      have h5 : r' / Nat.gcd r' k' = a := by rw [h3]; exact quoN h4 H.2.2.1
      have HG := Lib.hid h3
      have g1 : (1 : Int) ≤ (g : Int) := by have := H.2.2.1; omega
      have g2 : (g : Int) ≤ 300 := by have := H.2.2.2.1; omega
      have d1 := H.2.2.2.2.2.2.2.1
      have a1 : a ≤ 300 := H.2.2.2.2.2.2.1
      have hcj : wheelC r' q k' = (a == q) := by rw [wheelC, h5]; simp [hj1]
      clear h3 h4 h5 H e1 e2
      cases hc : (a == q) with
      | true =>
        have HS := Lib.hid (selT_yes (wheelC r' q) k' (by rw [hcj, hc]))
        have e1 : ((a : Int) == (q : Int)) = true := by rw [beq_iff_eq] at hc ⊢; omega
        clear hc hcj
        go_wp2_with (first
          | (go_at_call 41; (refine (srCommon_any _ _ _ (by omega) (by omega)).mono ?_); rintro e w2 ⟨rfl, hb2⟩; rw [HG.out]; have HI2 := Lib.hid (HI.out.later hb2); have hB2 := hB.trans (hb2.mono hz); have hz2 := hB2.size)
          | (at_builtin; refine wpList_append_int rfl _ _ 39 rfl (w.heap.size) 3 Try.underlying39 info_int _ _ rfl HI2.out (k' : Int) rfl (by omega) (by omega) ?_; intro v' w' hI' hg'; have hB' := HI2.out.below hB2 hz2 hg'; rw [HS.out] at hI'; have HI' := Lib.hid hI'; clear hI'))
        go_roundw
        case rel => exact ⟨k' + 1, by omega, by omega, by go_num, HI'.out, hB'⟩
        case measure => simp [intOf]; omega
      | false =>
        have HS := Lib.hid (selT_no (wheelC r' q) k' (by rw [hcj, hc]))
        have e1 : ((a : Int) == (q : Int)) = false := by rw [beq_eq_false_iff_ne] at hc ⊢; omega
        clear hc hcj
        go_wp2_with (first
          | (go_at_call 41; (refine (srCommon_any _ _ _ (by omega) (by omega)).mono ?_); rintro e w2 ⟨rfl, hb2⟩; rw [HG.out]; have HI2 := Lib.hid (HI.out.later hb2); have hB2 := hB.trans (hb2.mono hz); have hz2 := hB2.size))
        go_roundw
        case rel => exact ⟨k' + 1, by omega, by omega, by go_num, by rw [← HS.out]; exact HI2.out, hB2⟩
        case measure => simp [intOf]; omega
    · obtain rfl : j = r := by omega
      go_wp2
      go_ret2
      exact giveT true HI.out (Nat.le_refl _) hB

set_option maxHeartbeats 400000 in
theorem sWheelsFor_no (r q : Int) (w : World) (h : ¬ ((3 ≤ r ∧ r ≤ 300) ∧ (1 ≤ q ∧ q ≤ 300))) :
    Calls Try.prog 36 #[.int .i64 r, .int .i64 q] w (Gives (IntsIn 3) w [] false) := by
  by_cases h1 : 3 ≤ r ∧ r ≤ 300
  · have h2 : ¬ (1 ≤ q ∧ q ≤ 300) := fun g => h ⟨h1, g⟩
    clear h
    go_enter Try.func36, Try.ntmps36
    go_wp2_with (first | (go_at_call 44; (with_reducible refine (l1In_yes _ _ _ _ h1).mono ?_); rintro e w1 ⟨rfl, rfl⟩) | (go_at_call 44; (with_reducible refine (l1In_no _ _ _ _ h2).mono ?_); rintro e w1 ⟨rfl, rfl⟩))
    go_ret2
    exact giveNoT (Below.refl _ _)
  · clear h
    go_enter Try.func36, Try.ntmps36
    go_wp2_with (first | (go_at_call 44; (with_reducible refine (l1In_no _ _ _ _ h1).mono ?_); rintro e w1 ⟨rfl, rfl⟩))
    go_ret2
    exact giveNoT (Below.refl _ _)

set_option maxHeartbeats 400000 in
theorem core_MeetingsOf (r k a : Int) (x : List Int)  (b : Bool) (w : World) (hx : x.length ≤ 1000000)
    (hs : ∀ W, Calls Try.prog 29 #[.int .i64 r, .int .i64 k, .int .i64 a] W (Gives (IntsIn 3) W x b)) (hi : ∀ W, Calls Try.prog 30 #[.int .i64 r, .int .i64 k, .int .i64 a] W (Gives (IntsIn 3) W x b)) :
    Calls Try.prog 10 #[.int .i64 r, .int .i64 k, .int .i64 a] w fun e w' => e = .returned (.bool true) ∧ Below w.heap.size w w' := by
  have HS := Lib.hid hs
  have HI := Lib.hid hi
  clear hs hi
  go_enter Try.func10, Try.ntmps10
  go_wp2_with fail
  refine (HS.out _).mono ?_
  rintro e w1 ⟨vw, rfl, kw_1, hb1⟩
  have n1 : w.heap.size ≤ w1.heap.size := by have := hb1.size; (try simp at this); omega
  have B1 : Below w.heap.size w w1 := Below.trans (by go_grown) (hb1.mono (by first | (simp; done) | (simp; omega)))
  go_wp2_with fail
  refine (HI.out _).mono ?_
  rintro e w2 ⟨vg, rfl, kg_2, hb2⟩
  have n2 := hb2.size
  have B2 := B1.trans (hb2.mono (by omega))
  have kw_2 := kw_1.keep (belowSame hb2 (by omega))
  go_wp2_with fail
  refine (eqIntS_in _ _ x _ _ _ _ _ _ kg_2 kw_2).mono ?_
  rintro e w3 ⟨rfl, hb3⟩
  have n3 := hb3.size
  have B3 := B2.trans (hb3.mono (by omega))
  have kw_3 := kw_2.keep (belowSame hb3 (by omega))
  have kg_3 := kg_2.keep (belowSame hb3 (by omega))
  go_wp2_with fail
  refine (markIntS_in _ x 1 _ _ _ _ kg_3 (by omega) (by omega) (by omega)).mono ?_
  rintro e w4 ⟨rfl, mg_4, o4⟩
  have n4 := o4.size
  have B4 := B3.trans (o4.below (C := w.heap.size) (by omega) (by omega))
  have kw_4 := kw_3.keep (o4.same_in (by omega) (by omega))
  have kg_4 := mg_4
  go_wp2_with fail
  refine (heldIntS_in _ 1 x.length _ _ _ _ kg_4 (by omega) (by omega) (by omega)).mono ?_
  rintro e w5 ⟨rfl, hb5⟩
  have n5 := hb5.size
  have B5 := B4.trans (hb5.mono (by omega))
  have kw_5 := kw_4.keep (belowSame hb5 (by omega))
  have kg_5 := kg_4.keep (belowSame hb5 (by omega))
  go_wp2_with fail
  refine (HI.out _).mono ?_
  rintro e w6 ⟨vh, rfl, kh_6, hb6⟩
  have n6 := hb6.size
  have B6 := B5.trans (hb6.mono (by omega))
  have kw_6 := kw_5.keep (belowSame hb6 (by omega))
  have kg_6 := kg_5.keep (belowSame hb6 (by omega))
  go_wp2_with fail
  refine (eqIntS_in _ _ x _ _ _ _ _ _ kh_6 kw_6).mono ?_
  rintro e w7 ⟨rfl, hb7⟩
  have n7 := hb7.size
  have B7 := B6.trans (hb7.mono (by omega))
  have kw_7 := kw_6.keep (belowSame hb7 (by omega))
  have kg_7 := kg_6.keep (belowSame hb7 (by omega))
  have kh_7 := kh_6.keep (belowSame hb7 (by omega))
  go_wp2_with fail
  refine (heldIntS_in _ 1 x.length _ _ _ _ kg_7 (by omega) (by omega) (by omega)).mono ?_
  rintro e w8 ⟨rfl, hb8⟩
  have n8 := hb8.size
  have B8 := B7.trans (hb8.mono (by omega))
  have kw_8 := kw_7.keep (belowSame hb8 (by omega))
  have kg_8 := kg_7.keep (belowSame hb8 (by omega))
  have kh_8 := kh_7.keep (belowSame hb8 (by omega))
  go_wp2_with fail
  go_ret
  exact ⟨rfl, B8⟩

set_option maxHeartbeats 400000 in
theorem core_CuspsOf (r k : Int) (x : List Int)  (b : Bool) (w : World) (hx : x.length ≤ 1000000)
    (hs : ∀ W, Calls Try.prog 34 #[.int .i64 r, .int .i64 k] W (Gives (IntsIn 3) W x b)) (hi : ∀ W, Calls Try.prog 35 #[.int .i64 r, .int .i64 k] W (Gives (IntsIn 3) W x b)) :
    Calls Try.prog 11 #[.int .i64 r, .int .i64 k] w fun e w' => e = .returned (.bool true) ∧ Below w.heap.size w w' := by
  have HS := Lib.hid hs
  have HI := Lib.hid hi
  clear hs hi
  go_enter Try.func11, Try.ntmps11
  go_wp2_with fail
  refine (HS.out _).mono ?_
  rintro e w1 ⟨vw, rfl, kw_1, hb1⟩
  have n1 : w.heap.size ≤ w1.heap.size := by have := hb1.size; (try simp at this); omega
  have B1 : Below w.heap.size w w1 := Below.trans (by go_grown) (hb1.mono (by first | (simp; done) | (simp; omega)))
  go_wp2_with fail
  refine (HI.out _).mono ?_
  rintro e w2 ⟨vg, rfl, kg_2, hb2⟩
  have n2 := hb2.size
  have B2 := B1.trans (hb2.mono (by omega))
  have kw_2 := kw_1.keep (belowSame hb2 (by omega))
  go_wp2_with fail
  refine (eqIntS_in _ _ x _ _ _ _ _ _ kg_2 kw_2).mono ?_
  rintro e w3 ⟨rfl, hb3⟩
  have n3 := hb3.size
  have B3 := B2.trans (hb3.mono (by omega))
  have kw_3 := kw_2.keep (belowSame hb3 (by omega))
  have kg_3 := kg_2.keep (belowSame hb3 (by omega))
  go_wp2_with fail
  refine (markIntS_in _ x 1 _ _ _ _ kg_3 (by omega) (by omega) (by omega)).mono ?_
  rintro e w4 ⟨rfl, mg_4, o4⟩
  have n4 := o4.size
  have B4 := B3.trans (o4.below (C := w.heap.size) (by omega) (by omega))
  have kw_4 := kw_3.keep (o4.same_in (by omega) (by omega))
  have kg_4 := mg_4
  go_wp2_with fail
  refine (heldIntS_in _ 1 x.length _ _ _ _ kg_4 (by omega) (by omega) (by omega)).mono ?_
  rintro e w5 ⟨rfl, hb5⟩
  have n5 := hb5.size
  have B5 := B4.trans (hb5.mono (by omega))
  have kw_5 := kw_4.keep (belowSame hb5 (by omega))
  have kg_5 := kg_4.keep (belowSame hb5 (by omega))
  go_wp2_with fail
  refine (HI.out _).mono ?_
  rintro e w6 ⟨vh, rfl, kh_6, hb6⟩
  have n6 := hb6.size
  have B6 := B5.trans (hb6.mono (by omega))
  have kw_6 := kw_5.keep (belowSame hb6 (by omega))
  have kg_6 := kg_5.keep (belowSame hb6 (by omega))
  go_wp2_with fail
  refine (eqIntS_in _ _ x _ _ _ _ _ _ kh_6 kw_6).mono ?_
  rintro e w7 ⟨rfl, hb7⟩
  have n7 := hb7.size
  have B7 := B6.trans (hb7.mono (by omega))
  have kw_7 := kw_6.keep (belowSame hb7 (by omega))
  have kg_7 := kg_6.keep (belowSame hb7 (by omega))
  have kh_7 := kh_6.keep (belowSame hb7 (by omega))
  go_wp2_with fail
  refine (heldIntS_in _ 1 x.length _ _ _ _ kg_7 (by omega) (by omega) (by omega)).mono ?_
  rintro e w8 ⟨rfl, hb8⟩
  have n8 := hb8.size
  have B8 := B7.trans (hb8.mono (by omega))
  have kw_8 := kw_7.keep (belowSame hb8 (by omega))
  have kg_8 := kg_7.keep (belowSame hb8 (by omega))
  have kh_8 := kh_7.keep (belowSame hb8 (by omega))
  go_wp2_with fail
  go_ret
  exact ⟨rfl, B8⟩

set_option maxHeartbeats 400000 in
theorem core_WheelsFor (r q : Int) (x : List Int)  (b : Bool) (w : World) (hx : x.length ≤ 1000000)
    (hs : ∀ W, Calls Try.prog 36 #[.int .i64 r, .int .i64 q] W (Gives (IntsIn 3) W x b)) (hi : ∀ W, Calls Try.prog 37 #[.int .i64 r, .int .i64 q] W (Gives (IntsIn 3) W x b)) :
    Calls Try.prog 12 #[.int .i64 r, .int .i64 q] w fun e w' => e = .returned (.bool true) ∧ Below w.heap.size w w' := by
  have HS := Lib.hid hs
  have HI := Lib.hid hi
  clear hs hi
  go_enter Try.func12, Try.ntmps12
  go_wp2_with fail
  refine (HS.out _).mono ?_
  rintro e w1 ⟨vw, rfl, kw_1, hb1⟩
  have n1 : w.heap.size ≤ w1.heap.size := by have := hb1.size; (try simp at this); omega
  have B1 : Below w.heap.size w w1 := Below.trans (by go_grown) (hb1.mono (by first | (simp; done) | (simp; omega)))
  go_wp2_with fail
  refine (HI.out _).mono ?_
  rintro e w2 ⟨vg, rfl, kg_2, hb2⟩
  have n2 := hb2.size
  have B2 := B1.trans (hb2.mono (by omega))
  have kw_2 := kw_1.keep (belowSame hb2 (by omega))
  go_wp2_with fail
  refine (eqIntS_in _ _ x _ _ _ _ _ _ kg_2 kw_2).mono ?_
  rintro e w3 ⟨rfl, hb3⟩
  have n3 := hb3.size
  have B3 := B2.trans (hb3.mono (by omega))
  have kw_3 := kw_2.keep (belowSame hb3 (by omega))
  have kg_3 := kg_2.keep (belowSame hb3 (by omega))
  go_wp2_with fail
  refine (markIntS_in _ x 1 _ _ _ _ kg_3 (by omega) (by omega) (by omega)).mono ?_
  rintro e w4 ⟨rfl, mg_4, o4⟩
  have n4 := o4.size
  have B4 := B3.trans (o4.below (C := w.heap.size) (by omega) (by omega))
  have kw_4 := kw_3.keep (o4.same_in (by omega) (by omega))
  have kg_4 := mg_4
  go_wp2_with fail
  refine (heldIntS_in _ 1 x.length _ _ _ _ kg_4 (by omega) (by omega) (by omega)).mono ?_
  rintro e w5 ⟨rfl, hb5⟩
  have n5 := hb5.size
  have B5 := B4.trans (hb5.mono (by omega))
  have kw_5 := kw_4.keep (belowSame hb5 (by omega))
  have kg_5 := kg_4.keep (belowSame hb5 (by omega))
  go_wp2_with fail
  refine (HI.out _).mono ?_
  rintro e w6 ⟨vh, rfl, kh_6, hb6⟩
  have n6 := hb6.size
  have B6 := B5.trans (hb6.mono (by omega))
  have kw_6 := kw_5.keep (belowSame hb6 (by omega))
  have kg_6 := kg_5.keep (belowSame hb6 (by omega))
  go_wp2_with fail
  refine (eqIntS_in _ _ x _ _ _ _ _ _ kh_6 kw_6).mono ?_
  rintro e w7 ⟨rfl, hb7⟩
  have n7 := hb7.size
  have B7 := B6.trans (hb7.mono (by omega))
  have kw_7 := kw_6.keep (belowSame hb7 (by omega))
  have kg_7 := kg_6.keep (belowSame hb7 (by omega))
  have kh_7 := kh_6.keep (belowSame hb7 (by omega))
  go_wp2_with fail
  refine (heldIntS_in _ 1 x.length _ _ _ _ kg_7 (by omega) (by omega) (by omega)).mono ?_
  rintro e w8 ⟨rfl, hb8⟩
  have n8 := hb8.size
  have B8 := B7.trans (hb8.mono (by omega))
  have kw_8 := kw_7.keep (belowSame hb8 (by omega))
  have kg_8 := kg_7.keep (belowSame hb8 (by omega))
  have kh_8 := kh_7.keep (belowSame hb8 (by omega))
  go_wp2_with fail
  go_ret
  exact ⟨rfl, B8⟩

theorem walk_MeetingsOf (r k a : Int) (w : World) (_ : (Lit.int .i64 r).wf = true) (_ : (Lit.int .i64 k).wf = true) (_ : (Lit.int .i64 a).wf = true) :
    Calls Try.prog 10 #[.int .i64 r, .int .i64 k, .int .i64 a] w fun e w' => e = .returned (.bool true) ∧ Below w.heap.size w w' := by
  by_cases h : ((3 ≤ r ∧ r ≤ 300) ∧ (1 ≤ k ∧ k < r)) ∧ (0 ≤ a ∧ a < r)
  · obtain ⟨r, rfl⟩ := Int.eq_ofNat_of_zero_le (show 0 ≤ r by omega)
    obtain ⟨k, rfl⟩ := Int.eq_ofNat_of_zero_le (show 0 ≤ k by omega)
    obtain ⟨a, rfl⟩ := Int.eq_ofNat_of_zero_le (show 0 ≤ a by omega)
    have g : (3 ≤ r ∧ r ≤ 300) ∧ (1 ≤ k ∧ k < r) ∧ a < r := by omega
    exact core_MeetingsOf _ _ _ _ true w (by have := selT_length (fun b => (meetT r k a b).isSome) k; omega) (fun W => sMeetingsOf_yes r k a W g) (fun W => iMeetingsOf_yes r k a W g)
  · exact core_MeetingsOf _ _ _ [] false w (by simp) (fun W => sMeetingsOf_no _ _ _ W h) (fun W => iMeetingsOf_no _ _ _ W h)

theorem walk_CuspsOf (r k : Int) (w : World) (_ : (Lit.int .i64 r).wf = true) (_ : (Lit.int .i64 k).wf = true) :
    Calls Try.prog 11 #[.int .i64 r, .int .i64 k] w fun e w' => e = .returned (.bool true) ∧ Below w.heap.size w w' := by
  by_cases h : (3 ≤ r ∧ r ≤ 300) ∧ (1 ≤ k ∧ k < r)
  · obtain ⟨r, k, g, a, b, rfl, rfl, H⟩ := gear_of r k h
    have a1 : a ≤ 300 := H.2.2.2.2.2.2.1
    exact core_CuspsOf _ _ _ true w (by rw [cuspL_length]; omega) (fun W => sCuspsOf_yes r k g a b W H) (fun W => iCuspsOf_yes r k g a b W H)
  · exact core_CuspsOf _ _ [] false w (by simp) (fun W => sCuspsOf_no _ _ W h) (fun W => iCuspsOf_no _ _ W h)

theorem walk_WheelsFor (r q : Int) (w : World) (_ : (Lit.int .i64 r).wf = true) (_ : (Lit.int .i64 q).wf = true) :
    Calls Try.prog 12 #[.int .i64 r, .int .i64 q] w fun e w' => e = .returned (.bool true) ∧ Below w.heap.size w w' := by
  by_cases h : (3 ≤ r ∧ r ≤ 300) ∧ (1 ≤ q ∧ q ≤ 300)
  · obtain ⟨r, rfl⟩ := Int.eq_ofNat_of_zero_le (show 0 ≤ r by omega)
    obtain ⟨q, rfl⟩ := Int.eq_ofNat_of_zero_le (show 0 ≤ q by omega)
    have g : (3 ≤ r ∧ r ≤ 300) ∧ (1 ≤ q ∧ q ≤ 300) := by omega
    exact core_WheelsFor _ _ _ true w (by have := selT_length (wheelC r q) r; omega) (fun W => sWheelsFor_yes r q W g) (fun W => iWheelsFor_yes r q W g)
  · exact core_WheelsFor _ _ [] false w (by simp) (fun W => sWheelsFor_no _ _ W h) (fun W => iWheelsFor_no _ _ W h)

end Go.Proofs.Ytnnhjnogebicbaa
