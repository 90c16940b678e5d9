/- Gears: teeth that meet: the step, by both. -/
import Derived.Test.YtnnhjnogebicbaaE1
import Derived.Test.YtnnhjnogebicbaaEM
import Derived.Test.YtnnhjnogebicbaaES
namespace Go.Proofs.Ytnnhjnogebicbaa
open Go.RowKit
set_option linter.unusedVariables false

set_option maxHeartbeats 400000 in
theorem isMeeting_yes (r k a b : Int) (w : World) (h : ((3 ≤ r ∧ r ≤ 300) ∧ (1 ≤ k ∧ k < r)) ∧ (0 ≤ a ∧ a < r) ∧ (0 ≤ b ∧ b < k)) :
    Calls Try.prog 50 #[.int .i64 r, .int .i64 k, .int .i64 a, .int .i64 b] w fun e w' => e = .returned (.bool true) ∧ w = w' := by
  go_enter Try.func50, Try.ntmps50
  go_wp2_with (first | (go_at_call 42; (with_reducible refine (isGear_yes _ _ _ h.1).mono ?_); rintro e w1 ⟨rfl, rfl⟩) | (go_at_call 62; (with_reducible refine (isPoint_yes _ _ _ h.2.1).mono ?_); rintro e w1 ⟨rfl, rfl⟩) | (go_at_call 62; (with_reducible refine (isPoint_yes _ _ _ h.2.2).mono ?_); rintro e w1 ⟨rfl, rfl⟩))
  go_ret
  exact ⟨rfl, rfl⟩

set_option maxHeartbeats 400000 in
theorem isMeeting_no (r k a b : Int) (w : World) (h : ¬ (((3 ≤ r ∧ r ≤ 300) ∧ (1 ≤ k ∧ k < r)) ∧ (0 ≤ a ∧ a < r) ∧ (0 ≤ b ∧ b < k))) :
    Calls Try.prog 50 #[.int .i64 r, .int .i64 k, .int .i64 a, .int .i64 b] w fun e w' => e = .returned (.bool false) ∧ w = w' := by
  by_cases h1 : (3 ≤ r ∧ r ≤ 300) ∧ (1 ≤ k ∧ k < r)
  · by_cases h2 : 0 ≤ a ∧ a < r
    · have h3 : ¬ (0 ≤ b ∧ b < k) := fun g => h ⟨h1, h2, g⟩
      clear h
      go_enter Try.func50, Try.ntmps50
      go_wp2_with (first | (go_at_call 42; (with_reducible refine (isGear_yes _ _ _ h1).mono ?_); rintro e w1 ⟨rfl, rfl⟩) | (go_at_call 62; (with_reducible refine (isPoint_yes _ _ _ h2).mono ?_); rintro e w1 ⟨rfl, rfl⟩) | (go_at_call 62; (with_reducible refine (isPoint_no _ _ _ h3).mono ?_); rintro e w1 ⟨rfl, rfl⟩))
      go_ret
      exact ⟨rfl, rfl⟩
    · clear h
      go_enter Try.func50, Try.ntmps50
      go_wp2_with (first | (go_at_call 42; (with_reducible refine (isGear_yes _ _ _ h1).mono ?_); rintro e w1 ⟨rfl, rfl⟩) | (go_at_call 62; (with_reducible refine (isPoint_no _ _ _ h2).mono ?_); rintro e w1 ⟨rfl, rfl⟩))
      go_ret
      exact ⟨rfl, rfl⟩
  · clear h
    go_enter Try.func50, Try.ntmps50
    go_wp2_with (first | (go_at_call 42; (with_reducible refine (isGear_no _ _ _ h1).mono ?_); rintro e w1 ⟨rfl, rfl⟩))
    go_ret
    exact ⟨rfl, rfl⟩

set_option maxHeartbeats 400000 in
theorem geTeeth_yes (r k a b : Int) (w : World) (h : ((3 ≤ r ∧ r ≤ 300) ∧ (1 ≤ k ∧ k < r)) ∧ (0 ≤ a ∧ a < r) ∧ (0 ≤ b ∧ b < k)) :
    Calls Try.prog 48 #[.int .i64 r, .int .i64 k, .int .i64 a, .int .i64 b] w fun e w' => e = .returned (.bool true) ∧ w = w' := by
  have hr := h.1.1
  have hk := h.1.2
  go_enter Try.func48, Try.ntmps48
  go_wp2_with (first | (go_at_call 40; (with_reducible refine (geGood_yes _ _ _ h.1).mono ?_); rintro e w1 ⟨rfl, rfl⟩) | (go_at_call 44; (with_reducible refine (l1In_yes _ _ _ _ (by omega)).mono ?_); rintro e w1 ⟨rfl, rfl⟩))
  go_ret
  exact ⟨rfl, rfl⟩

set_option maxHeartbeats 400000 in
theorem geTeeth_no (r k a b : Int) (w : World) (h : ¬ (((3 ≤ r ∧ r ≤ 300) ∧ (1 ≤ k ∧ k < r)) ∧ (0 ≤ a ∧ a < r) ∧ (0 ≤ b ∧ b < k))) :
    Calls Try.prog 48 #[.int .i64 r, .int .i64 k, .int .i64 a, .int .i64 b] w fun e w' => e = .returned (.bool false) ∧ w = w' := by
  by_cases h1 : (3 ≤ r ∧ r ≤ 300) ∧ (1 ≤ k ∧ k < r)
  · have hr := h1.1
    have hk := h1.2
    by_cases h2 : 0 ≤ a ∧ a ≤ r - 1
    · have h3 : ¬ (0 ≤ b ∧ b ≤ k - 1) := fun g => h ⟨h1, by omega, by omega⟩
      clear h
      go_enter Try.func48, Try.ntmps48
      go_wp2_with (first | (go_at_call 40; (with_reducible refine (geGood_yes _ _ _ h1).mono ?_); rintro e w1 ⟨rfl, rfl⟩) | (go_at_call 44; (with_reducible refine (l1In_yes _ _ _ _ h2).mono ?_); rintro e w1 ⟨rfl, rfl⟩) | (go_at_call 44; (with_reducible refine (l1In_no _ _ _ _ h3).mono ?_); rintro e w1 ⟨rfl, rfl⟩))
      go_ret
      exact ⟨rfl, rfl⟩
    · clear h
      go_enter Try.func48, Try.ntmps48
      go_wp2_with (first | (go_at_call 40; (with_reducible refine (geGood_yes _ _ _ h1).mono ?_); rintro e w1 ⟨rfl, rfl⟩) | (go_at_call 44; (with_reducible refine (l1In_no _ _ _ _ h2).mono ?_); rintro e w1 ⟨rfl, rfl⟩))
      go_ret
      exact ⟨rfl, rfl⟩
  · clear h
    go_enter Try.func48, Try.ntmps48
    go_wp2_with (first | (go_at_call 40; (with_reducible refine (geGood_no _ _ _ h1).mono ?_); rintro e w1 ⟨rfl, rfl⟩))
    go_ret
    exact ⟨rfl, rfl⟩

set_option maxHeartbeats 1000000 in
theorem geMeet_any (r k a b : Nat) (w : World) (h : (3 ≤ r ∧ r ≤ 300) ∧ (1 ≤ k ∧ k < r) ∧ a < r ∧ b < k) :
    Calls Try.prog 49 #[.int .i64 r, .int .i64 k, .int .i64 a, .int .i64 b] w fun e w' => e = .returned (.int .i64 (stepM a r (meetT r k a b))) ∧ w = w' := by
  obtain ⟨⟨r1, r2⟩, ⟨k1, k2⟩, a1, b1⟩ := h
  obtain ⟨y, hy⟩ : ∃ y, r * k = y := ⟨_, rfl⟩
  have y1 : y ≤ 90000 := by rw [← hy]; exact mul_bd300 r2 (by omega)
  have y2 : (r : Int) * (k : Int) = (y : Int) := by rw [← hy]; simp
  have HY := Lib.hid hy
  clear hy
  obtain ⟨o, ho⟩ : ∃ o, meetT r k a b = o := ⟨_, rfl⟩
  rw [ho]
  have HO := Lib.hid ho
  clear ho
  go_enter Try.func49, Try.ntmps49
  go_wp2
  go_loop [9] (fun u => ∃ j : Nat, j ≤ k ∧ u = .int .i64 ((a + j * r : Nat) : Int) ∧ Hid (∀ i, i < j → ((a + i * r) % k == b) = false)) (fun u => y - (intOf u).toNat)
  case atStart => exact ⟨0, by omega, by simp, Lib.hid (fun i hi => by omega)⟩
  case round =>
    obtain ⟨j, hj, rfl, HL⟩ := hrel
    obtain ⟨x, hx⟩ : ∃ x, a + j * r = x := ⟨_, rfl⟩
    have HX := Lib.hid hx
    by_cases hlt : j < k
    · have x1 : x < y := by rw [← hx, ← HY.out]; exact step_lt r k a j a1 hlt
      rw [hx]
      clear hx
      have x2 : (x : Int) < (y : Int) := by omega
      cases hc : (x % k == b) with
      | true =>
        have e1 : ((x : Int) % (k : Int) == (b : Int)) = true := by
          rw [beq_iff_eq] at hc ⊢
          omega
        have HF := Lib.hid (show meetT r k a b = some j from find_at (c := fun i => (a + i * r) % k == b) hlt (by show ((a + j * r) % k == b) = true; rw [HX.out]; exact hc) HL.out)
        clear hc
        go_wp2
        go_ret
        exact ⟨by rw [← HO.out, HF.out]; simp [stepM, ← HX.out], rfl⟩
      | false =>
        have e1 : ((x : Int) % (k : Int) == (b : Int)) = false := by
          rw [beq_eq_false_iff_ne] at hc ⊢
          omega
        have HN := Lib.hid (show ∀ i, i < j + 1 → ((a + i * r) % k == b) = false from fun i hi => by
          rcases Nat.lt_or_ge i j with h1 | h1
          · exact HL.out i h1
          · rw [show i = j by omega, HX.out]; exact hc)
        clear hc
        go_wp2
        go_round
        case rel => exact ⟨j + 1, by omega, by rw [Nat.succ_mul, ← Nat.add_assoc, HX.out]; go_num, HN⟩
        case measure => simp [intOf]; omega
    · obtain rfl : j = k := by omega
      have x1 : y ≤ x := by rw [← hx, ← HY.out]; exact step_ge r j a
      have HF := Lib.hid (show meetT r j a b = none from find_none (c := fun i => (a + i * r) % j == b) HL.out)
      rw [hx]
      clear hx
      go_wp2
      go_ret
      exact ⟨by rw [← HO.out, HF.out]; rfl, rfl⟩

set_option maxHeartbeats 400000 in
theorem metFn_any (x k b gk gb : Nat) (t : Bool) (w : World) (hk : w.cell? ⟨gk, 0, none⟩ = some (.int .i64 k)) (hb : w.cell? ⟨gb, 0, none⟩ = some (.int .i64 b)) (h1 : 1 ≤ k) (h2 : k ≤ 300) (hx : (x : Int) ≤ 301 * 1000000000000000) (ht : (x % k == b) = t) :
    Calls Try.prog 52 #[.int .i64 x, .pointer (some ⟨gk, 0, none⟩), .pointer (some ⟨gb, 0, none⟩)] w fun e w' => e = .returned (.bool t) ∧ Below w.heap.size w w' := by
  have e1 : ((x : Int) % (k : Int) == (b : Int)) = t := by
    rw [← ht, Bool.eq_iff_iff, beq_iff_eq, beq_iff_eq]
    omega
  clear ht
  go_enter Try.func52, Try.ntmps52
  cases t
  all_goals
    go_wp2
    go_quiet (fail)
    go_wp2
    go_ret
    exact ⟨rfl, by first | exact bdn (Below.refl _ _) _ | go_grown⟩

set_option maxHeartbeats 1000000 in
theorem stepMeet (fs by' n : Nat) (kk b gk gb : Nat) (c : Nat → Bool) (w : World) (hn : n ≤ 300) (hf : fs ≤ 1000000000000000) (hby : by' ≤ 1000000000000000) (k1 : 1 ≤ kk) (k2 : kk ≤ 300) (hk : w.cell? ⟨gk, 0, none⟩ = some (.int .i64 kk)) (hb : w.cell? ⟨gb, 0, none⟩ = some (.int .i64 b)) (hcd : ∀ i, i < n → ((fs + i * by') % kk == b) = c i) :
    Calls Try.prog 51 #[.int .i64 fs, .int .i64 by', .int .i64 n, .func (.func 52) #[] #[.pointer (some ⟨gk, 0, none⟩), .pointer (some ⟨gb, 0, none⟩)]] w fun e w' => e = .returned (.tuple #[.int .i64 (stepV fs by' ((List.range n).find? c)), .bool ((List.range n).find? c).isSome]) ∧ Below w.heap.size w w' := by
  have HCD := Lib.hid hcd
  have HK := Lib.hid hk
  have HBB := Lib.hid hb
  clear hcd hk hb
  obtain ⟨o, ho⟩ : ∃ o, (List.range n).find? c = o := ⟨_, rfl⟩
  rw [ho]
  have HO := Lib.hid ho
  clear ho
  go_enter Try.func51, Try.ntmps51
  go_wp2
  go_loopw [13] (fun i wr => ∃ k : Nat, k ≤ n ∧ i = .int .i64 k ∧ Hid (∀ j, j < k → c j = false) ∧ Below w.heap.size w wr) (fun i _ => n - (intOf i).toNat)
  case atStart => exact ⟨0, by omega, rfl, Lib.hid (fun j hj => by omega), Below.refl _ _⟩
  case round =>
    obtain ⟨k, hk, rfl, HL, hB⟩ := hrel
    have hz := hB.size
    by_cases hlt : k < n
    · obtain ⟨q, hq⟩ : ∃ q, k * by' = q := ⟨_, rfl⟩
      have q1 : q ≤ 300 * 1000000000000000 := by rw [← hq]; exact Nat.mul_le_mul (by omega) hby
      have q2 : (k : Int) * (by' : Int) = (q : Int) := by rw [← hq]; simp
      have HQ := Lib.hid hq
      clear hq
      obtain ⟨x, hx⟩ : ∃ x, fs + q = x := ⟨_, rfl⟩
      have x1 : (fs : Int) + (q : Int) = (x : Int) := by omega
      have x2 : (x : Int) ≤ 301 * 1000000000000000 := by omega
      have HX := Lib.hid (show fs + k * by' = x by rw [HQ.out]; exact hx)
      clear hx
      have HK2 := Lib.hid ((hB.cell (p := ⟨gk, 0, none⟩) (World.block_lt_of_cell? w _ HK.out)).trans HK.out)
      have HB2 := Lib.hid ((hB.cell (p := ⟨gb, 0, none⟩) (World.block_lt_of_cell? w _ HBB.out)).trans HBB.out)
      cases hcb : c k with
      | true =>
        have HF := Lib.hid (find_at hlt hcb HL.out)
        have HCB := Lib.hid hcb
        clear hcb
        go_wp2_with (first
          | (go_at_call 52; (try rw [q2]); (try rw [x1]); (refine (metFn_any x kk b gk gb true _ HK2.out HB2.out k1 k2 x2 (by rw [← HX.out]; exact (HCD.out k hlt).trans HCB.out)).mono ?_); rintro e w1 ⟨rfl, hb1⟩; have hB1 := hB.trans (hb1.mono hz)))
        go_ret2
        exact ⟨by rw [← HO.out, HF.out]; simp [stepV, ← HX.out, ← HQ.out], hB1⟩
      | false =>
        have HN := Lib.hid (show ∀ j, j < k + 1 → c j = false from fun j hj => by
          rcases Nat.lt_or_ge j k with h1 | h1
          · exact HL.out j h1
          · rw [show j = k by omega]; exact hcb)
        have HCB := Lib.hid hcb
        clear hcb
        go_wp2_with (first
          | (go_at_call 52; (try rw [q2]); (try rw [x1]); (refine (metFn_any x kk b gk gb false _ HK2.out HB2.out k1 k2 x2 (by rw [← HX.out]; exact (HCD.out k hlt).trans HCB.out)).mono ?_); rintro e w1 ⟨rfl, hb1⟩; have hB1 := hB.trans (hb1.mono hz)))
        go_roundw
        case rel => exact ⟨k + 1, by omega, by go_num, HN, hB1⟩
        case measure => simp [intOf]; omega
    · obtain rfl : k = n := by omega
      have HF := Lib.hid (find_none HL.out)
      go_wp2
      go_ret2
      exact ⟨by rw [← HO.out, HF.out]; simp [stepV], hB⟩

end Go.Proofs.Ytnnhjnogebicbaa
