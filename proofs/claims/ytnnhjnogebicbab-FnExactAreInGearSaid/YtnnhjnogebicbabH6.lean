/- Trains: whether wheels are in gear. -/
import Derived.Test.YtnnhjnogebicbabH5
namespace Go.Proofs.Ytnnhjnogebicbab
open Go.RowKit
set_option linter.unusedVariables false

set_option maxHeartbeats 400000 in
theorem areTeethOf_yes (v u : Value) (xs ys : List Int) (w : World) (h : ArgI w v xs) (h2 : ArgI w u ys) (hy : TeethOf xs ys) :
    Calls Try.prog 44 #[v, u] w fun e w' => e = .returned (.bool true) ∧ w = w' := by
  obtain ⟨a0, cap, a, rfl, ha, hm, hc⟩ := h
  obtain ⟨b0, bcap, b, rfl, hb, hbm, hbc⟩ := h2
  obtain ⟨hl, hy⟩ := hy
  have HC := Lib.hid hc
  have HA := Lib.hid ha
  rw [hl] at hb hbm hbc ⊢
  have HBC := Lib.hid hbc
  have HB := Lib.hid hb
  have HY := Lib.hid hy
  clear hc ha hbc hb hy hl
  unfold maxLen at hm
  go_enter Try.func44, Try.ntmps44
  go_wp2
  go_loop [14] (fun i => ∃ k : Nat, k ≤ xs.length ∧ i = .int .i64 k) (fun i => xs.length - (intOf i).toNat)
  case atStart => exact ⟨0, by omega, rfl⟩
  case round =>
    obtain ⟨k, hk, rfl⟩ := hrel
    by_cases hlt : k < xs.length
    · obtain rfl := HA.out (by omega)
      obtain rfl := HB.out (by omega)
      have c1 := HC.out k hlt
      have c2 := HBC.out k hlt
      have c3 := HY.out k hlt
      generalize xs.getD k 0 = x at c1 c3
      generalize ys.getD k 0 = y at c2 c3
      go_wp2_with (first | (go_at_call 63; (with_reducible refine (isPoint_yes _ _ _ c3).mono ?_); rintro e w1 ⟨rfl, rfl⟩))
      go_round
      case rel => exact ⟨k + 1, by omega, by go_num⟩
      case measure => simp [intOf]; omega
    · obtain rfl : k = xs.length := by omega
      go_wp2
      go_ret
      exact ⟨rfl, rfl⟩

set_option maxHeartbeats 400000 in
theorem areTeethOf_some (v u : Value) (xs ys : List Int) (j : Nat) (w : World) (h : ArgI w v xs) (h2 : ArgI w u ys) (hl : ys.length = xs.length) (hj : j < xs.length) (hb : ¬ (0 ≤ ys.getD j 0 ∧ ys.getD j 0 < xs.getD j 0)) (hg : ∀ i, i < j → 0 ≤ ys.getD i 0 ∧ ys.getD i 0 < xs.getD i 0) :
    Calls Try.prog 44 #[v, u] w fun e w' => e = .returned (.bool false) ∧ w = w' := by
  obtain ⟨a0, cap, a, rfl, ha, hm, hc⟩ := h
  obtain ⟨b0, bcap, b, rfl, hbb, hbm, hbc⟩ := h2
  rw [hl] at hbb hbm hbc ⊢
  have HC := Lib.hid hc
  have HBC := Lib.hid hbc
  have HY := Lib.hid hg
  obtain rfl := ha (by omega)
  obtain rfl := hbb (by omega)
  clear hc ha hbc hbb hg hl
  unfold maxLen at hm
  go_enter Try.func44, Try.ntmps44
  go_wp2
  go_loop [14] (fun i => ∃ k : Nat, k ≤ j ∧ i = .int .i64 k) (fun i => xs.length - (intOf i).toNat)
  case atStart => exact ⟨0, by omega, rfl⟩
  case round =>
    obtain ⟨k, hk, rfl⟩ := hrel
    by_cases hlt : k < j
    · have c1 := HC.out k (by omega)
      have c2 := HBC.out k (by omega)
      have c3 := HY.out k hlt
      generalize xs.getD k 0 = x at c1 c3
      generalize ys.getD k 0 = y at c2 c3
      go_wp2_with (first | (go_at_call 63; (with_reducible refine (isPoint_yes _ _ _ c3).mono ?_); rintro e w1 ⟨rfl, rfl⟩))
      go_round
      case rel => exact ⟨k + 1, by omega, by go_num⟩
      case measure => simp [intOf]; omega
    · obtain rfl : k = j := by omega
      have c1 := HC.out k hj
      have c2 := HBC.out k hj
      generalize xs.getD k 0 = x at c1 hb
      generalize ys.getD k 0 = y at c2 hb
      go_wp2_with (first | (go_at_call 63; (with_reducible refine (isPoint_no _ _ _ hb).mono ?_); rintro e w1 ⟨rfl, rfl⟩))
      go_ret
      exact ⟨rfl, rfl⟩

set_option maxHeartbeats 400000 in
theorem areTeethOf_len (v u : Value) (xs ys : List Int) (w : World) (h : ArgI w v xs) (h2 : ArgI w u ys) (hl : ¬ ys.length = xs.length) :
    Calls Try.prog 44 #[v, u] w fun e w' => e = .returned (.bool false) ∧ w = w' := by
  obtain ⟨a0, cap, a, rfl, ha, hm, hc⟩ := h
  obtain ⟨b0, bcap, b, rfl, hbb, hbm, hbc⟩ := h2
  have hne : ((ys.length : Int) != (xs.length : Int)) = true := bne_iff_ne.2 (by omega)
  go_enter Try.func44, Try.ntmps44
  go_wp2
  go_ret
  exact ⟨rfl, rfl⟩

theorem areTeethOf_no (v u : Value) (xs ys : List Int) (w : World) (h : ArgI w v xs) (h2 : ArgI w u ys) (hy : ¬ TeethOf xs ys) :
    Calls Try.prog 44 #[v, u] w fun e w' => e = .returned (.bool false) ∧ w = w' := by
  by_cases hl : ys.length = xs.length
  · obtain ⟨j, hj, hb, hg⟩ := not_all (fun g => hy ⟨hl, g⟩)
    exact areTeethOf_some v u xs ys j w h h2 hl hj hb hg
  · exact areTeethOf_len v u xs ys w h h2 hl

set_option maxHeartbeats 400000 in
theorem iAreInGear_no (v u : Value) (xs ys : List Int) (w : World) (h : ArgI w v xs) (h2 : ArgI w u ys) (ht : ¬ (Train xs ∧ TeethOf xs ys)) :
    Calls Try.prog 23 #[v, u] w fun e w' => e = .returned (.tuple #[.bool false, .bool false]) ∧ Below w.heap.size w w' := by
  have H := Lib.hid h
  have H2 := Lib.hid h2
  clear h h2
  by_cases h1 : Train xs
  · have h3 : ¬ TeethOf xs ys := fun g => ht ⟨h1, g⟩
    clear ht
    go_enter Try.func23, Try.ntmps23
    go_wp2_with (first | (go_at_call 36; (with_reducible refine (isTrain_yes _ _ _ H.out h1).mono ?_); rintro e w1 ⟨rfl, rfl⟩) | (go_at_call 44; (with_reducible refine (areTeethOf_no _ _ _ _ _ H.out H2.out h3).mono ?_); rintro e w1 ⟨rfl, rfl⟩))
    go_ret2
    exact ⟨rfl, Below.refl _ _⟩
  · clear ht
    go_enter Try.func23, Try.ntmps23
    go_wp2_with (first | (go_at_call 36; (with_reducible refine (isTrain_no _ _ _ H.out h1).mono ?_); rintro e w1 ⟨rfl, rfl⟩))
    go_ret2
    exact ⟨rfl, Below.refl _ _⟩

set_option maxHeartbeats 1000000 in
theorem stepReach (fs by' n : Nat) (g1 g2 : Nat) (v : Value) (xs L : List Int) (c : Nat → Bool) (w : World) (hn : n ≤ 300) (hf : fs ≤ 1000000000000000) (hby : by' ≤ 1000000000000000) (hc1 : w.cell? ⟨g1, 0, none⟩ = some v) (hA : ArrAt 54 w g2 L) (hI : ArgI w v xs) (hw : Wheels xs) (hL : L.length = 6) (hcd : ∀ i, i < n → decide (teethL xs (fs + i * by') xs.length = L) = c i) :
    Calls Try.prog 45 #[.int .i64 fs, .int .i64 by', .int .i64 n, .func (.func 64) #[] #[.pointer (some ⟨g1, 0, none⟩), .pointer (some ⟨g2, 0, none⟩)]] w fun e w' => e = .returned (.tuple #[.int .i64 (stepV fs by' ((List.range n).find? c)), .bool ((List.range n).find? c).isSome]) ∧ Below w.heap.size w w' := by
  have HCD := Lib.hid hcd
  have HK1 := Lib.hid hc1
  have HK2 := Lib.hid hA
  have HK3 := Lib.hid hI
  have HW := Lib.hid hw
  have HLL := Lib.hid hL
  clear hcd hc1 hA hI hw hL
  obtain ⟨o, ho⟩ : ∃ o, (List.range n).find? c = o := ⟨_, rfl⟩
  rw [ho]
  have HO := Lib.hid ho
  clear ho
  go_enter Try.func45, Try.ntmps45
  go_wp2
  go_loopw [13] (fun i wr => ∃ k : Nat, k ≤ n ∧ i = .int .i64 k ∧ Hid (∀ j, j < k → c j = false) ∧ Below w.heap.size w wr) (fun i _ => n - (intOf i).toNat)
  case atStart => exact ⟨0, by omega, rfl, Lib.hid (fun j hj => by omega), Below.refl _ _⟩
  case round =>
    obtain ⟨k, hk, rfl, HL, hB⟩ := hrel
    have hz := hB.size
    by_cases hlt : k < n
    · obtain ⟨q, hq⟩ : ∃ q, k * by' = q := ⟨_, rfl⟩
      have q1 : q ≤ 300 * 1000000000000000 := by rw [← hq]; exact Nat.mul_le_mul (by omega) hby
      have q2 : (k : Int) * (by' : Int) = (q : Int) := by rw [← hq]; simp
      have HQ := Lib.hid hq
      clear hq
      obtain ⟨x, hx⟩ : ∃ x, fs + q = x := ⟨_, rfl⟩
      have x1 : (fs : Int) + (q : Int) = (x : Int) := by omega
      have x2 : (x : Int) ≤ 301 * 1000000000000000 := by omega
      have HX := Lib.hid (show fs + k * by' = x by rw [HQ.out]; exact hx)
      clear hx
      have K1 := Lib.hid ((hB.cell (p := ⟨g1, 0, none⟩) (World.block_lt_of_cell? w _ HK1.out)).trans HK1.out)
      have K2 := Lib.hid (HK2.out.keep hB)
      have K3 := Lib.hid (HK3.out.later hB)
      cases hcb : c k with
      | true =>
        have HF := Lib.hid (find_at hlt hcb HL.out)
        have HCB := Lib.hid hcb
        clear hcb
        go_wp2_with (first
          | (go_at_call 64; (try rw [q2]); (try rw [x1]); (refine (reachFn_any x g1 g2 v xs L true _ K1.out K2.out K3.out HW.out HLL.out (by omega) (by rw [← HX.out]; exact (HCD.out k hlt).trans HCB.out)).mono ?_); rintro e w1 ⟨rfl, hb1⟩; have hB1 := hB.trans (hb1.mono hz)))
        go_ret2
        exact ⟨by rw [← HO.out, HF.out]; simp [stepV, ← HX.out, ← HQ.out], hB1⟩
      | false =>
        have HN := Lib.hid (show ∀ j, j < k + 1 → c j = false from fun j hj => by
          rcases Nat.lt_or_ge j k with h1 | h1
          · exact HL.out j h1
          · rw [show j = k by omega]; exact hcb)
        have HCB := Lib.hid hcb
        clear hcb
        go_wp2_with (first
          | (go_at_call 64; (try rw [q2]); (try rw [x1]); (refine (reachFn_any x g1 g2 v xs L false _ K1.out K2.out K3.out HW.out HLL.out (by omega) (by rw [← HX.out]; exact (HCD.out k hlt).trans HCB.out)).mono ?_); rintro e w1 ⟨rfl, hb1⟩; have hB1 := hB.trans (hb1.mono hz)))
        go_roundw
        case rel => exact ⟨k + 1, by omega, by go_num, HN, hB1⟩
        case measure => simp [intOf]; omega
    · obtain rfl : k = n := by omega
      have HF := Lib.hid (find_none HL.out)
      go_wp2
      go_ret2
      exact ⟨by rw [← HO.out, HF.out]; simp [stepV], hB⟩

theorem IntsIn.lit {e : TypeId} {w : World} {B T : Nat} {v : Value} {xs : List Int} (h : IntsIn e w B T v xs) (hn : 0 < xs.length) : ∃ g cap, v = .slice (some ⟨g, 0, none⟩) xs.length cap ∧ xs.length ≤ cap ∧ cap ≤ maxLen := by
  rcases h.1.2 with ⟨_, h0⟩ | ⟨g, cap, cur, hv, _, _, hc, hm, _⟩
  · omega
  · exact ⟨g, cap, hv, hc, hm⟩

theorem pow_next {S P j k t : Nat} (hS : S < 300 ^ k) (hP : P ≤ 300 ^ k) (hj : j < t) (ht : t ≤ 300) : S + j * P < 300 ^ (k + 1) := by
  have : j * P ≤ 299 * 300 ^ k := Nat.mul_le_mul (by omega) hP
  rw [Nat.pow_succ]
  omega

theorem pow_bd {S k : Nat} (hS : S < 300 ^ k) (hk : k ≤ 6) : S ≤ 729000000000000 :=
  Nat.le_trans (Nat.le_of_lt hS) (Nat.le_trans (Nat.pow_le_pow_right (by omega) hk) (by decide))

end Go.Proofs.Ytnnhjnogebicbab
