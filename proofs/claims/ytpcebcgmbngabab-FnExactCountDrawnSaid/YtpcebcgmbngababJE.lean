/- Counts of loops: both sides of CountLoops; the ways in which a loop ends. -/
import Derived.Test.YtpcebcgmbngababJC
import Derived.Test.YtpcebcgmbngababW1
import Derived.Test.YtpcebcgmbngababRows
namespace Go.Proofs.Ytpcebcgmbngabab
open Go.RowKit
set_option linter.unusedVariables false

theorem oddP_succ (k : Nat) : oddP (k + 1) = oddP k * (2 * k + 1) := rfl

theorem oddP_mono : ∀ {j k : Nat}, j ≤ k → oddP j ≤ oddP k
  | j, 0, h => by obtain rfl : j = 0 := by omega
                  exact Nat.le_refl _
  | j, k + 1, h => by
    by_cases e : j = k + 1
    · subst e; exact Nat.le_refl _
    · exact Nat.le_trans (oddP_mono (by omega : j ≤ k)) (by rw [oddP_succ]; exact Nat.le_mul_of_pos_right _ (by omega))

theorem waysN_succ (k l : Nat) : waysN (k + 1) l = waysN k l * (2 * l + k + 1) := by
  unfold waysN
  rw [Nat.mul_assoc]
  rfl

theorem waysN_nil (l : Nat) : waysN 0 l = oddP l := by simp [waysN, risP]

set_option maxHeartbeats 1000000 in
theorem countLoopEndings_any (o : Int) (O l : Nat) (w : World) (hO : O = o.toNat) (h1 : O + l ≤ 9) (h2 : -1 ≤ o) :
    Calls Try.prog 50 #[.int .i64 o, .int .i64 l] w fun e w' => e = .returned (.int .i64 (waysN O l)) ∧ w = w' := by
  have HS := Lib.hid (fun k => oddP_succ k)
  have HW := Lib.hid (fun k => waysN_succ k l)
  have HN := Lib.hid (waysN_nil l)
  have HLE := Lib.hid (fun k (hk : k ≤ 9) => oddP_le k hk)
  have HLW := Lib.hid (fun k (hk : k + l ≤ 9) => waysN_le k l hk)
  have H0 : oddP 0 = 1 := rfl
  have hml : (2 : Int) * (l : Int) = ((2 * l : Nat) : Int) := by simp
  obtain ⟨m, hm⟩ : ∃ m : Nat, 2 * l = m := ⟨_, rfl⟩
  rw [hm] at hml
  have hwm : IntKind.i64.wrap (m : Int) = (m : Int) := by rw [IntKind.wrap_i64]; omega
  have HM := Lib.hid hm
  have hm18 : m ≤ 18 := by omega
  clear hm
  go_enter Try.func50, Try.ntmps50
  go_wp2
  go_loopw [5, 9] (fun c i wr => ∃ k : Nat, k ≤ l ∧ i = .int .i64 k ∧ c = .int .i64 (oddP k : Int) ∧ w = wr) (fun _ i _ => l - (intOf i).toNat)
  case atStart => exact ⟨0, by omega, rfl, by rw [H0]; rfl, rfl⟩
  case round =>
    obtain ⟨k, hk, rfl, rfl, rfl⟩ := hrel
    by_cases hlt : k < l
    · have hs := HS.out k
      have hb := HLE.out (k + 1) (by omega)
      obtain ⟨c, hc⟩ : ∃ c, oddP k = c := ⟨_, rfl⟩
      rw [hc] at hs ⊢
      obtain ⟨c1, hc1⟩ : ∃ c1, c * (2 * k + 1) = c1 := ⟨_, rfl⟩
      have e3 : (c : Int) * (2 * (k : Int) + 1) = (c1 : Int) := by rw [← hc1]; simp
      rw [hc1] at hs
      rw [hs] at hb
      have e4 : IntKind.i64.wrap (c1 : Int) = (c1 : Int) := by rw [IntKind.wrap_i64]; omega
      have e1 : IntKind.i64.wrap (2 * (k : Int)) = 2 * (k : Int) := by rw [IntKind.wrap_i64]; omega
      have e2 : IntKind.i64.wrap (2 * (k : Int) + 1) = 2 * (k : Int) + 1 := by rw [IntKind.wrap_i64]; omega
      have HK := Lib.hid hs
      clear hs hc hc1
      go_wp2
      go_roundw
      case rel => exact ⟨k + 1, by omega, by go_num, by rw [HK.out], by trivial⟩
      case measure => simp [intOf]; omega
    · obtain rfl : k = l := by omega
      go_wp2
      go_loopw [5, 19] (fun c i wr => ∃ j : Nat, j ≤ O ∧ i = .int .i64 j ∧ c = .int .i64 (waysN j k : Int) ∧ w = wr) (fun _ i _ => O - (intOf i).toNat)
      case atStart => exact ⟨0, by omega, rfl, by rw [HN.out], rfl⟩
      case round =>
        obtain ⟨j, hj, rfl, rfl, rfl⟩ := hrel
        by_cases hlt2 : j < O
        · have hs := HW.out j
          have hb := HLW.out (j + 1) (by omega)
          obtain ⟨c, hc⟩ : ∃ c, waysN j k = c := ⟨_, rfl⟩
          rw [hc] at hs ⊢
          rw [HM.out] at hs
          obtain ⟨c1, hc1⟩ : ∃ c1, c * (m + j + 1) = c1 := ⟨_, rfl⟩
          have e3 : (c : Int) * ((m : Int) + (j : Int) + 1) = (c1 : Int) := by rw [← hc1]; simp
          rw [hc1] at hs
          rw [hs] at hb
          have e4 : IntKind.i64.wrap (c1 : Int) = (c1 : Int) := by rw [IntKind.wrap_i64]; omega
          have e1 : IntKind.i64.wrap ((m : Int) + (j : Int)) = (m : Int) + (j : Int) := by rw [IntKind.wrap_i64]; omega
          have e2 : IntKind.i64.wrap ((m : Int) + (j : Int) + 1) = (m : Int) + (j : Int) + 1 := by rw [IntKind.wrap_i64]; omega
          have hjo : (j : Int) < o := by omega
          have HK := Lib.hid hs
          clear hs hc hc1
          go_wp2
          go_roundw
          case rel => exact ⟨j + 1, by omega, by go_num, by rw [HK.out], by trivial⟩
          case measure => simp [intOf]; omega
        · have hjo : ¬ (j : Int) < o := by omega
          obtain rfl : j = O := by omega
          go_wp2
          go_ret
          exact ⟨rfl, rfl⟩

set_option maxHeartbeats 1000000 in
theorem loCount_any (n : Nat) (w : World) (h : n ≤ 9) :
    Calls Try.prog 48 #[.int .i64 n] w fun e w' => e = .returned (.int .i64 (oddP n)) ∧ w = w' := by
  have HS := Lib.hid (fun k => oddP_succ k)
  have HLE := Lib.hid (fun k (hk : k ≤ 9) => oddP_le k hk)
  have H0 : oddP 0 = 1 := rfl
  go_enter Try.func48, Try.ntmps48
  go_wp2
  go_loopw [3, 4] (fun c i wr => ∃ k : Nat, k ≤ n ∧ i = .int .i64 ((k : Int) + 1) ∧ c = .int .i64 (oddP k : Int) ∧ w = wr) (fun _ i _ => n + 1 - (intOf i).toNat)
  case atStart => exact ⟨0, by omega, by simp, by rw [H0]; rfl, rfl⟩
  case round =>
    obtain ⟨k, hk, rfl, rfl, rfl⟩ := hrel
    by_cases hlt : k < n
    · have hs := HS.out k
      have hb := HLE.out (k + 1) (by omega)
      obtain ⟨c, hc⟩ : ∃ c, oddP k = c := ⟨_, rfl⟩
      rw [hc] at hs ⊢
      obtain ⟨c1, hc1⟩ : ∃ c1, c * (2 * k + 1) = c1 := ⟨_, rfl⟩
      rw [hc1] at hs
      rw [hs] at hb
      have e4 : IntKind.i64.wrap (c1 : Int) = (c1 : Int) := by rw [IntKind.wrap_i64]; omega
      have hle : (k : Int) + 1 ≤ (n : Int) := by omega
      have e1 : IntKind.i64.wrap (2 * ((k : Int) + 1)) = 2 * ((k : Int) + 1) := by rw [IntKind.wrap_i64]; omega
      have e2 : IntKind.i64.wrap (2 * ((k : Int) + 1) - 1) = 2 * ((k : Int) + 1) - 1 := by rw [IntKind.wrap_i64]; omega
      have e3 : (c : Int) * (2 * ((k : Int) + 1) - 1) = (c1 : Int) := by rw [show 2 * ((k : Int) + 1) - 1 = 2 * (k : Int) + 1 by omega, ← hc1]; simp
      have hw : IntKind.i64.wrap ((k : Int) + 1 + 1) = ((k : Int) + 1 + 1) := by rw [IntKind.wrap_i64]; omega
      have HK := Lib.hid hs
      clear hs hc hc1
      go_wp2
      go_roundw
      case rel => exact ⟨k + 1, by omega, by go_num, by rw [HK.out], by trivial⟩
      case measure => simp [intOf]; omega
    · obtain rfl : k = n := by omega
      have hle : ¬ (k : Int) + 1 ≤ (k : Int) := by omega
      go_wp2
      go_ret
      exact ⟨rfl, rfl⟩

def WaysC (f : Nat) : Prop := ∀ (o l : Nat) (W : World), o + 2 * l < f → o + l ≤ 9 → Calls Try.prog 54 #[.int .i64 o, .int .i64 l] W fun e w' => e = .returned (.int .i64 (waysN o l)) ∧ W = w'

set_option maxHeartbeats 400000 in
theorem loWays_00 (w : World) : Calls Try.prog 54 #[.int .i64 0, .int .i64 0] w fun e w' => e = .returned (.int .i64 1) ∧ w = w' := by
  go_enter Try.func54, Try.ntmps54
  go_wp2
  go_ret
  exact ⟨rfl, rfl⟩

set_option maxHeartbeats 1000000 in
theorem loWays_o0 (f o o1 : Nat) (w : World) (ho : o1 = o + 1) (hf : o1 < f + 1) (h9 : o1 ≤ 9) (hr : WaysC f) :
    Calls Try.prog 54 #[.int .i64 o1, .int .i64 0] w fun e w' => e = .returned (.int .i64 (waysN o1 0 : Nat)) ∧ w = w' := by
  have HR : Hid (∀ W : World, Calls Try.prog 54 #[.int .i64 (o : Int), .int .i64 0] W fun e w' => e = .returned (.int .i64 (waysN o 0 : Nat)) ∧ W = w') := Lib.hid (fun W => by have := hr o 0 W (by omega) (by omega); simpa using this)
  have hb := waysN_le o1 0 (by omega)
  have hs : waysN o1 0 = o1 * waysN o 0 := by rw [ho]; exact waysN_open o
  obtain ⟨v, hv⟩ : ∃ v, waysN o1 0 = v := ⟨_, rfl⟩
  obtain ⟨u, hu⟩ : ∃ u, waysN o 0 = u := ⟨_, rfl⟩
  rw [hv] at hb hs ⊢
  rw [hu] at hs HR
  have e1 : (o1 : Int) * (u : Int) = (v : Int) := by rw [hs]; simp
  have e2 : IntKind.i64.wrap (v : Int) = (v : Int) := by rw [IntKind.wrap_i64]; omega
  have e3 : IntKind.i64.wrap ((o1 : Int) - 1) = (o : Int) := by rw [IntKind.wrap_i64]; omega
  have e4 : ((o1 : Int) == 0) = false := beq_eq_false_iff_ne.2 (by omega)
  have e5 : 0 < o1 := by omega
  clear hs hv hu ho
  clear hr
  go_enter Try.func54, Try.ntmps54
  go_wp2_with (first | (go_at_call 54; first | ((with_reducible refine (HR.out _).mono ?_); rintro e w1 ⟨rfl, rfl⟩)))
  go_ret
  exact ⟨by first | rfl | exact HFIN.out, rfl⟩

set_option maxHeartbeats 1000000 in
theorem loWays_0l (f l l1 : Nat) (w : World) (hl : l1 = l + 1) (hf : 2 * l1 < f + 1) (h9 : l1 ≤ 9) (hr : WaysC f) :
    Calls Try.prog 54 #[.int .i64 0, .int .i64 l1] w fun e w' => e = .returned (.int .i64 (waysN 0 l1 : Nat)) ∧ w = w' := by
  have HR : Hid (∀ W : World, Calls Try.prog 54 #[.int .i64 1, .int .i64 (l : Int)] W fun e w' => e = .returned (.int .i64 (waysN 0 l1 : Nat)) ∧ W = w') := Lib.hid (fun W => by have := hr 1 l W (by omega) (by omega); rw [← waysN_left, ← hl] at this; simpa using this)
  have hb := waysN_le 0 l1 (by omega)
  obtain ⟨v, hv⟩ : ∃ v, waysN 0 l1 = v := ⟨_, rfl⟩
  rw [hv] at hb HR ⊢
  have e2 : IntKind.i64.wrap (v : Int) = (v : Int) := by rw [IntKind.wrap_i64]; omega
  have e3 : IntKind.i64.wrap ((l1 : Int) - 1) = (l : Int) := by rw [IntKind.wrap_i64]; omega
  have e4 : ((l1 : Int) == 0) = false := beq_eq_false_iff_ne.2 (by omega)
  have e5 : 0 < l1 := by omega
  clear hv hl
  clear hr
  go_enter Try.func54, Try.ntmps54
  go_wp2_with (first | (go_at_call 54; first | ((with_reducible refine (HR.out _).mono ?_); rintro e w1 ⟨rfl, rfl⟩)))
  go_ret
  exact ⟨by first | rfl | exact HFIN.out, rfl⟩

set_option maxHeartbeats 1000000 in
theorem loWays_ol (f o o1 o2 l l1 : Nat) (w : World) (ho : o1 = o + 1) (ho2 : o2 = o + 2) (hl : l1 = l + 1) (hf : o1 + 2 * l1 < f + 1) (h9 : o1 + l1 ≤ 9) (hr : WaysC f) :
    Calls Try.prog 54 #[.int .i64 o1, .int .i64 l1] w fun e w' => e = .returned (.int .i64 (waysN o1 l1 : Nat)) ∧ w = w' := by
  have HR : Hid (∀ W : World, Calls Try.prog 54 #[.int .i64 (o : Int), .int .i64 (l1 : Int)] W fun e w' => e = .returned (.int .i64 (waysN o l1 : Nat)) ∧ W = w') := Lib.hid (fun W => by exact hr o l1 W (by omega) (by omega))
  have HQ : Hid (∀ W : World, Calls Try.prog 54 #[.int .i64 (o2 : Int), .int .i64 (l : Int)] W fun e w' => e = .returned (.int .i64 (waysN o2 l : Nat)) ∧ W = w') := Lib.hid (fun W => by exact hr o2 l W (by omega) (by omega))
  have hb := waysN_le o1 l1 (by omega)
  have hs : waysN o1 l1 = o1 * waysN o l1 + waysN o2 l := by rw [ho, ho2, hl]; exact waysN_both o l
  obtain ⟨v, hv⟩ : ∃ v, waysN o1 l1 = v := ⟨_, rfl⟩
  obtain ⟨u, hu⟩ : ∃ u, waysN o l1 = u := ⟨_, rfl⟩
  obtain ⟨q, hq⟩ : ∃ q, waysN o2 l = q := ⟨_, rfl⟩
  rw [hv] at hb hs ⊢
  rw [hu] at hs HR
  rw [hq] at hs HQ
  obtain ⟨p, hp⟩ : ∃ p, o1 * u = p := ⟨_, rfl⟩
  rw [hp] at hs
  have e1 : (o1 : Int) * (u : Int) = (p : Int) := by rw [← hp]; simp
  have e2 : IntKind.i64.wrap (p : Int) = (p : Int) := by rw [IntKind.wrap_i64]; omega
  have e2' : IntKind.i64.wrap ((p : Int) + (q : Int)) = (p : Int) + (q : Int) := by rw [IntKind.wrap_i64]; omega
  have e3 : IntKind.i64.wrap ((o1 : Int) - 1) = (o : Int) := by rw [IntKind.wrap_i64]; omega
  have e4 : ((o1 : Int) == 0) = false := beq_eq_false_iff_ne.2 (by omega)
  have e5 : 0 < o1 := by omega
  have e6 : 0 < l1 := by omega
  have e7 : IntKind.i64.wrap ((l1 : Int) - 1) = (l : Int) := by rw [IntKind.wrap_i64]; omega
  have e8 : IntKind.i64.wrap ((o1 : Int) + 1) = (o2 : Int) := by rw [IntKind.wrap_i64]; omega
  have HFIN : Hid (Ending.returned (Value.int IntKind.i64 ((p : Int) + (q : Int))) = Ending.returned (Value.int IntKind.i64 (v : Int))) := Lib.hid (by rw [show (p : Int) + (q : Int) = (v : Int) by omega])
  clear hs hv hu hq hp ho ho2 hl
  clear hr
  go_enter Try.func54, Try.ntmps54
  go_wp2_with (first | (go_at_call 54; first | ((with_reducible refine (HR.out _).mono ?_); rintro e w1 ⟨rfl, rfl⟩) | ((with_reducible refine (HQ.out _).mono ?_); rintro e w1 ⟨rfl, rfl⟩)))
  go_ret
  exact ⟨by first | rfl | exact HFIN.out, rfl⟩

theorem loWays_all : ∀ f, WaysC f
  | 0 => fun o l W h _ => by omega
  | f + 1 => fun o l W h h9 => by
    have ih := loWays_all f
    match o, l with
    | 0, 0 => exact loWays_00 W
    | 0, l + 1 => exact loWays_0l f l (l + 1) W rfl (by omega) (by omega) ih
    | o + 1, 0 => exact loWays_o0 f o (o + 1) W rfl (by omega) (by omega) ih
    | o + 1, l + 1 => exact loWays_ol f o (o + 1) (o + 2) l (l + 1) W rfl rfl rfl (by omega) (by omega) ih

theorem loWays_any (o l : Nat) (w : World) (h : o + l ≤ 9) : Calls Try.prog 54 #[.int .i64 o, .int .i64 l] w fun e w' => e = .returned (.int .i64 (waysN o l)) ∧ w = w' :=
  loWays_all (o + 2 * l + 1) o l w (by omega) h

set_option maxHeartbeats 400000 in
theorem isCrossingCount_yes (n : Int) (w : World) (h : 0 ≤ n ∧ n ≤ 8) : Calls Try.prog 49 #[.int .i64 n] w fun e w' => e = .returned (.bool true) ∧ w = w' := by
  obtain ⟨h1, h2⟩ := h
  go_enter Try.func49, Try.ntmps49
  go_wp2
  go_ret
  exact ⟨rfl, rfl⟩

set_option maxHeartbeats 400000 in
theorem isCrossingCount_no (n : Int) (w : World) (h : ¬ (0 ≤ n ∧ n ≤ 8)) : Calls Try.prog 49 #[.int .i64 n] w fun e w' => e = .returned (.bool false) ∧ w = w' := by
  by_cases h1 : 0 ≤ n
  · have h2 : ¬ n ≤ 8 := by omega
    clear h
    go_enter Try.func49, Try.ntmps49
    go_wp2
    go_ret
    exact ⟨rfl, rfl⟩
  · clear h
    go_enter Try.func49, Try.ntmps49
    go_wp2
    go_ret
    exact ⟨rfl, rfl⟩

set_option maxHeartbeats 1000000 in
theorem core_CountLoops (k : Int) (n : Int) (b : Bool) (w : World) 
    (hs : ∀ W : World, Calls Try.prog 12 #[.int .i64 k] W fun e w' => e = .returned (.tuple #[.int .i64 n, .bool b]) ∧ Below W.heap.size W w')
    (hi : ∀ W : World, Calls Try.prog 13 #[.int .i64 k] W fun e w' => e = .returned (.tuple #[.int .i64 n, .bool b]) ∧ Below W.heap.size W w') :
    Calls Try.prog 3 #[.int .i64 k] w fun e w' => e = .returned (.bool true) ∧ Below w.heap.size w w' := by
  have HS := Lib.hid hs
  have HI := Lib.hid hi
  clear hs hi 
  go_enter Try.func3, Try.ntmps3
  go_wp2_with (first | (go_at_call 12; (with_reducible refine (HS.out _).mono ?_); rintro e w1 ⟨rfl, hb1⟩) | (go_at_call 13; (with_reducible refine (HI.out _).mono ?_); rintro e w2 ⟨rfl, hb2⟩))
  go_ret
  exact ⟨rfl, hb1.trans (hb2.mono hb1.size)⟩

set_option maxHeartbeats 400000 in
theorem implCountLoops_yes (n : Nat) (w : World) (h : 0 ≤ (n : Int) ∧ (n : Int) ≤ 8) : Calls Try.prog 13 #[.int .i64 n] w fun e w' => e = .returned (.tuple #[.int .i64 (waysN 0 n : Nat), .bool true]) ∧ Below w.heap.size w w' := by
  go_enter Try.func13, Try.ntmps13
  go_wp2_with (first | (go_at_call 49; (with_reducible refine (isCrossingCount_yes _ _ h).mono ?_); rintro e w1 ⟨rfl, rfl⟩) | (go_at_call 50; (with_reducible refine (countLoopEndings_any 0 0 n _ rfl (by omega) (by omega)).mono ?_); rintro e w2 ⟨rfl, rfl⟩))
  go_ret2
  exact ⟨rfl, Below.refl _ _⟩

set_option maxHeartbeats 400000 in
theorem implCountLoops_no (n : Int) (w : World) (h : ¬ (0 ≤ n ∧ n ≤ 8)) : Calls Try.prog 13 #[.int .i64 n] w fun e w' => e = .returned (.tuple #[.int .i64 0, .bool false]) ∧ Below w.heap.size w w' := by
  go_enter Try.func13, Try.ntmps13
  go_wp2_with (first | (go_at_call 49; (with_reducible refine (isCrossingCount_no _ _ h).mono ?_); rintro e w1 ⟨rfl, rfl⟩))
  go_ret2
  exact ⟨rfl, Below.refl _ _⟩

set_option maxHeartbeats 400000 in
theorem specCountLoops_yes (n : Nat) (w : World) (h : 0 ≤ (n : Int) ∧ (n : Int) ≤ 8) : Calls Try.prog 12 #[.int .i64 n] w fun e w' => e = .returned (.tuple #[.int .i64 (oddP n : Nat), .bool true]) ∧ Below w.heap.size w w' := by
  go_enter Try.func12, Try.ntmps12
  go_wp2_with (first | (go_at_call 47; (with_reducible refine (l1In_yes _ _ _ _ h).mono ?_); rintro e w1 ⟨rfl, rfl⟩) | (go_at_call 48; (with_reducible refine (loCount_any n _ (by omega)).mono ?_); rintro e w2 ⟨rfl, rfl⟩))
  go_ret2
  exact ⟨rfl, Below.refl _ _⟩

set_option maxHeartbeats 400000 in
theorem specCountLoops_no (n : Int) (w : World) (h : ¬ (0 ≤ n ∧ n ≤ 8)) : Calls Try.prog 12 #[.int .i64 n] w fun e w' => e = .returned (.tuple #[.int .i64 0, .bool false]) ∧ Below w.heap.size w w' := by
  go_enter Try.func12, Try.ntmps12
  go_wp2_with (first | (go_at_call 47; (with_reducible refine (l1In_no _ _ _ _ h).mono ?_); rintro e w1 ⟨rfl, rfl⟩))
  go_ret2
  exact ⟨rfl, Below.refl _ _⟩

theorem main_CountLoops (k : Int) (w : World) : Calls Try.prog 3 #[.int .i64 k] w fun e w' => e = .returned (.bool true) ∧ Below w.heap.size w w' := by
  by_cases h : 0 ≤ k ∧ k ≤ 8
  · obtain ⟨n, rfl⟩ := Int.eq_ofNat_of_zero_le h.1
    exact core_CountLoops n (oddP n : Nat) true w (fun W => specCountLoops_yes n W h) (fun W => by have := implCountLoops_yes n W h; rw [waysN_nil] at this; exact this)
  · exact core_CountLoops k 0 false w (fun W => specCountLoops_no k W h) (fun W => implCountLoops_no k W h)

theorem walk_CountLoops (k : Int) (w : World) (wf0 : (Lit.int .i64 k).wf = true) :
    Calls Try.prog 3 #[.int .i64 k] w fun e w' => e = .returned (.bool true) ∧ Below w.heap.size w w' := by
  exact main_CountLoops k w 

end Go.Proofs.Ytpcebcgmbngabab
