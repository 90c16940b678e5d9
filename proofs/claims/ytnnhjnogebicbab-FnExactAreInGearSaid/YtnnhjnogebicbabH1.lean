/- Trains: which there are. -/
import Derived.Test.YtnnhjnogebicbabI1
import Derived.Test.YtnnhjnogebicbabW2
namespace Go.Proofs.Ytnnhjnogebicbab
open Go.RowKit
set_option linter.unusedVariables false

/-- A train. -/
def Train (xs : List Int) : Prop := (2 ≤ xs.length ∧ xs.length ≤ 6) ∧ ∀ i, i < xs.length → 1 ≤ xs.getD i 0 ∧ xs.getD i 0 ≤ 300

theorem not_all {n : Nat} {P : Nat → Prop} (h : ¬ ∀ i, i < n → P i) : ∃ i, i < n ∧ ¬ P i ∧ ∀ j, j < i → P j := by
  have : ∃ i, i < n ∧ ¬ P i := Classical.byContradiction fun g => h fun i hi => Classical.byContradiction fun hp => g ⟨i, hi, hp⟩
  obtain ⟨k, hk⟩ := this
  induction k using Nat.strongRecOn with
  | _ k ih =>
    by_cases he : ∃ i, i < k ∧ ¬ P i
    · obtain ⟨i, hi, hp⟩ := he
      exact ih i hi ⟨by omega, hp⟩
    · exact ⟨k, hk.1, hk.2, fun i hi => Classical.byContradiction fun hp => he ⟨i, hi, hp⟩⟩

theorem IntsIn.arg {e : TypeId} {w : World} {B T : Nat} {v : Value} {xs : List Int} (h : IntsIn e w B T v xs) : ArgI w v xs := by
  obtain ⟨a0, cap, g, hv, ha, _, hm, _, hc, _⟩ := h.1.view
  exact ⟨a0, cap, ⟨g, 0, none⟩, hv, ha, hm, fun i hi => by rw [Go.WideShapes.add_plain]; simpa using hc i hi⟩

set_option maxHeartbeats 400000 in
theorem noWheel_no (x : Int) (w : World) (h : 1 ≤ x ∧ x ≤ 300) :
    Calls Try.prog 60 #[.int .i64 x] w fun e w' => e = .returned (.bool false) ∧ w = w' := by
  obtain ⟨h1, h2⟩ := h
  have h3 : ¬ x < 1 := by omega
  have h4 : ¬ 300 < x := by omega
  go_enter Try.func60, Try.ntmps60
  go_wp2
  go_ret
  exact ⟨rfl, rfl⟩

set_option maxHeartbeats 400000 in
theorem noWheel_yes (x : Int) (w : World) (h : ¬ (1 ≤ x ∧ x ≤ 300)) :
    Calls Try.prog 60 #[.int .i64 x] w fun e w' => e = .returned (.bool true) ∧ w = w' := by
  by_cases h1 : x < 1
  · clear h
    go_enter Try.func60, Try.ntmps60
    go_wp2
    go_ret
    exact ⟨rfl, rfl⟩
  · have h2 : 300 < x := by omega
    clear h
    go_enter Try.func60, Try.ntmps60
    go_wp2
    go_ret
    exact ⟨rfl, rfl⟩

set_option maxHeartbeats 400000 in
theorem idxWheel_all (v : Value) (xs : List Int) (w : World) (h : ArgI w v xs) (hn : xs.length ≤ 1048576) (hg : ∀ i, i < xs.length → 1 ≤ xs.getD i 0 ∧ xs.getD i 0 ≤ 300) :
    Calls Try.prog 78 #[v, .func (.func 60) #[] #[]] w fun e w' => e = .returned (.int .i64 (-1)) ∧ w = w' := by
  obtain ⟨a0, cap, a, rfl, ha, hm, hc⟩ := h
  have HC := Lib.hid hc
  have HA := Lib.hid ha
  have HG := Lib.hid hg
  clear ha hc hg
  go_enter Try.func78, Try.ntmps78
  go_wp2
  go_loop [8] (fun i => ∃ k : Nat, k ≤ xs.length ∧ i = .int .i64 k) (fun i => xs.length - (intOf i).toNat)
  case atStart => exact ⟨0, by omega, rfl⟩
  case round =>
    obtain ⟨k, hk, rfl⟩ := hrel
    by_cases hlt : k < xs.length
    · obtain rfl := HA.out (by omega)
      have c1 := HC.out k (by omega)
      have c2 := HG.out k hlt
      generalize xs.getD k 0 = x at c1 c2
      go_wp2_with (first | (go_at_call 60; (with_reducible refine (noWheel_no _ _ c2).mono ?_); rintro e w1 ⟨rfl, rfl⟩))
      go_round
      case rel => exact ⟨k + 1, by omega, by go_num⟩
      case measure => simp [intOf]; omega

    · obtain rfl : k = xs.length := by omega
      go_wp2
      go_ret
      exact ⟨rfl, rfl⟩

set_option maxHeartbeats 400000 in
theorem idxWheel_some (v : Value) (xs : List Int) (j : Nat) (w : World) (h : ArgI w v xs) (hn : xs.length ≤ 1048576) (hj : j < xs.length) (hb : ¬ (1 ≤ xs.getD j 0 ∧ xs.getD j 0 ≤ 300)) (hg : ∀ i, i < j → 1 ≤ xs.getD i 0 ∧ xs.getD i 0 ≤ 300) :
    Calls Try.prog 78 #[v, .func (.func 60) #[] #[]] w fun e w' => e = .returned (.int .i64 j) ∧ w = w' := by
  obtain ⟨a0, cap, a, rfl, ha, hm, hc⟩ := h
  have HC := Lib.hid hc
  have HA := Lib.hid ha
  have HG := Lib.hid hg
  clear ha hc hg
  go_enter Try.func78, Try.ntmps78
  go_wp2
  go_loop [8] (fun i => ∃ k : Nat, k ≤ j ∧ i = .int .i64 k) (fun i => xs.length - (intOf i).toNat)
  case atStart => exact ⟨0, by omega, rfl⟩
  case round =>
    obtain ⟨k, hk, rfl⟩ := hrel
    by_cases hlt : k < j
    · obtain rfl := HA.out (by omega)
      have c1 := HC.out k (by omega)
      have c2 := HG.out k hlt
      generalize xs.getD k 0 = x at c1 c2
      go_wp2_with (first | (go_at_call 60; (with_reducible refine (noWheel_no _ _ c2).mono ?_); rintro e w1 ⟨rfl, rfl⟩))
      go_round
      case rel => exact ⟨k + 1, by omega, by go_num⟩
      case measure => simp [intOf]; omega

    · obtain rfl : k = j := by omega
      obtain rfl := HA.out (by omega)
      have c1 := HC.out k (by omega)
      generalize xs.getD k 0 = x at c1 hb
      go_wp2_with (first | (go_at_call 60; (with_reducible refine (noWheel_yes _ _ hb).mono ?_); rintro e w1 ⟨rfl, rfl⟩))
      go_ret
      exact ⟨rfl, rfl⟩

set_option maxHeartbeats 400000 in
theorem noWheels_no (v : Value) (xs : List Int) (w : World) (h : ArgI w v xs) (hn : xs.length ≤ 1048576) (hg : ∀ i, i < xs.length → 1 ≤ xs.getD i 0 ∧ xs.getD i 0 ≤ 300) :
    Calls Try.prog 61 #[v, .func (.func 60) #[] #[]] w fun e w' => e = .returned (.bool false) ∧ w = w' := by
  go_enter Try.func61, Try.ntmps61
  go_wp2_with (first | (go_at_call 78; (with_reducible refine (idxWheel_all _ _ _ h hn hg).mono ?_); rintro e w1 ⟨rfl, rfl⟩))
  go_ret
  exact ⟨rfl, rfl⟩

set_option maxHeartbeats 400000 in
theorem noWheels_yes (v : Value) (xs : List Int) (w : World) (h : ArgI w v xs) (hn : xs.length ≤ 1048576) (hg : ¬ ∀ i, i < xs.length → 1 ≤ xs.getD i 0 ∧ xs.getD i 0 ≤ 300) :
    Calls Try.prog 61 #[v, .func (.func 60) #[] #[]] w fun e w' => e = .returned (.bool true) ∧ w = w' := by
  obtain ⟨j, hj, hb, hl⟩ := not_all hg
  clear hg
  have j0 : 0 ≤ (j : Int) := by omega
  go_enter Try.func61, Try.ntmps61
  go_wp2_with (first | (go_at_call 78; (with_reducible refine (idxWheel_some _ _ j _ h hn hj hb hl).mono ?_); rintro e w1 ⟨rfl, rfl⟩))
  go_ret
  exact ⟨rfl, rfl⟩

set_option maxHeartbeats 400000 in
theorem isTrain_yes (v : Value) (xs : List Int) (w : World) (h : ArgI w v xs) (ht : Train xs) :
    Calls Try.prog 36 #[v] w fun e w' => e = .returned (.bool true) ∧ w = w' := by
  obtain ⟨⟨t1, t2⟩, t3⟩ := ht
  have h' := h
  obtain ⟨a0, cap, a, rfl, _⟩ := h'
  have H := Lib.hid h
  clear h
  have l1 : 2 ≤ (xs.length : Int) := by omega
  have l2 : (xs.length : Int) ≤ 6 := by omega
  go_enter Try.func36, Try.ntmps36
  go_wp2_with (first | (go_at_call 61; (with_reducible refine (noWheels_no _ _ _ H.out (by omega) t3).mono ?_); rintro e w1 ⟨rfl, rfl⟩))
  go_ret
  exact ⟨rfl, rfl⟩

set_option maxHeartbeats 400000 in
theorem isTrain_no (v : Value) (xs : List Int) (w : World) (h : ArgI w v xs) (ht : ¬ Train xs) :
    Calls Try.prog 36 #[v] w fun e w' => e = .returned (.bool false) ∧ w = w' := by
  have h' := h
  obtain ⟨a0, cap, a, rfl, _⟩ := h'
  have H := Lib.hid h
  clear h
  by_cases l1 : 2 ≤ (xs.length : Int)
  · by_cases l2 : (xs.length : Int) ≤ 6
    · have t3 : ¬ ∀ i, i < xs.length → 1 ≤ xs.getD i 0 ∧ xs.getD i 0 ≤ 300 := fun g => ht ⟨by omega, g⟩
      clear ht
      go_enter Try.func36, Try.ntmps36
      go_wp2_with (first | (go_at_call 61; (with_reducible refine (noWheels_yes _ _ _ H.out (by omega) t3).mono ?_); rintro e w1 ⟨rfl, rfl⟩))
      go_ret
      exact ⟨rfl, rfl⟩
    · clear ht
      go_enter Try.func36, Try.ntmps36
      go_wp2
      go_ret
      exact ⟨by simp, rfl⟩
  · clear ht
    go_enter Try.func36, Try.ntmps36
    go_wp2
    go_ret
    exact ⟨by simp, rfl⟩

set_option maxHeartbeats 400000 in
theorem l1All_yes (v : Value) (xs : List Int) (lo hi : Int) (w : World) (h : ArgI w v xs) (hn : xs.length ≤ 1048576) (hg : ∀ i, i < xs.length → lo ≤ xs.getD i 0 ∧ xs.getD i 0 ≤ hi) :
    Calls Try.prog 58 #[v, .int .i64 lo, .int .i64 hi] w fun e w' => e = .returned (.bool true) ∧ w = w' := by
  obtain ⟨a0, cap, a, rfl, ha, hm, hc⟩ := h
  have HC := Lib.hid hc
  have HA := Lib.hid ha
  have HG := Lib.hid hg
  clear ha hc hg
  go_enter Try.func58, Try.ntmps58
  go_wp2
  go_loop [11] (fun i => ∃ k : Nat, k ≤ xs.length ∧ i = .int .i64 k) (fun i => xs.length - (intOf i).toNat)
  case atStart => exact ⟨0, by omega, rfl⟩
  case round =>
    obtain ⟨k, hk, rfl⟩ := hrel
    by_cases hlt : k < xs.length
    · obtain rfl := HA.out (by omega)
      have c1 := HC.out k (by omega)
      have c2 := HG.out k hlt
      generalize xs.getD k 0 = x at c1 c2
      go_wp2_with (first | (go_at_call 33; (with_reducible refine (l1In_yes _ _ _ _ c2).mono ?_); rintro e w1 ⟨rfl, rfl⟩))
      go_round
      case rel => exact ⟨k + 1, by omega, by go_num⟩
      case measure => simp [intOf]; omega
    · obtain rfl : k = xs.length := by omega
      go_wp2
      go_ret
      exact ⟨rfl, rfl⟩

set_option maxHeartbeats 400000 in
theorem l1All_some (v : Value) (xs : List Int) (lo hi : Int) (j : Nat) (w : World) (h : ArgI w v xs) (hn : xs.length ≤ 1048576) (hj : j < xs.length) (hb : ¬ (lo ≤ xs.getD j 0 ∧ xs.getD j 0 ≤ hi)) (hg : ∀ i, i < j → lo ≤ xs.getD i 0 ∧ xs.getD i 0 ≤ hi) :
    Calls Try.prog 58 #[v, .int .i64 lo, .int .i64 hi] w fun e w' => e = .returned (.bool false) ∧ w = w' := by
  obtain ⟨a0, cap, a, rfl, ha, hm, hc⟩ := h
  have HC := Lib.hid hc
  have HA := Lib.hid ha
  have HG := Lib.hid hg
  clear ha hc hg
  go_enter Try.func58, Try.ntmps58
  go_wp2
  go_loop [11] (fun i => ∃ k : Nat, k ≤ j ∧ i = .int .i64 k) (fun i => xs.length - (intOf i).toNat)
  case atStart => exact ⟨0, by omega, rfl⟩
  case round =>
    obtain ⟨k, hk, rfl⟩ := hrel
    obtain rfl := HA.out (by omega)
    by_cases hlt : k < j
    · have c1 := HC.out k (by omega)
      have c2 := HG.out k hlt
      generalize xs.getD k 0 = x at c1 c2
      go_wp2_with (first | (go_at_call 33; (with_reducible refine (l1In_yes _ _ _ _ c2).mono ?_); rintro e w1 ⟨rfl, rfl⟩))
      go_round
      case rel => exact ⟨k + 1, by omega, by go_num⟩
      case measure => simp [intOf]; omega
    · obtain rfl : k = j := by omega
      have c1 := HC.out k (by omega)
      generalize xs.getD k 0 = x at c1 hb
      go_wp2_with (first | (go_at_call 33; (with_reducible refine (l1In_no _ _ _ _ hb).mono ?_); rintro e w1 ⟨rfl, rfl⟩))
      go_ret
      exact ⟨rfl, rfl⟩

theorem l1All_no (v : Value) (xs : List Int) (lo hi : Int) (w : World) (h : ArgI w v xs) (hn : xs.length ≤ 1048576) (hg : ¬ ∀ i, i < xs.length → lo ≤ xs.getD i 0 ∧ xs.getD i 0 ≤ hi) :
    Calls Try.prog 58 #[v, .int .i64 lo, .int .i64 hi] w fun e w' => e = .returned (.bool false) ∧ w = w' := by
  obtain ⟨j, hj, hb, hl⟩ := not_all hg
  exact l1All_some v xs lo hi j w h hn hj hb hl

set_option maxHeartbeats 400000 in
theorem geTrain_yes (v : Value) (xs : List Int) (w : World) (h : ArgI w v xs) (ht : Train xs) :
    Calls Try.prog 32 #[v] w fun e w' => e = .returned (.bool true) ∧ w = w' := by
  obtain ⟨⟨t1, t2⟩, t3⟩ := ht
  have h' := h
  obtain ⟨a0, cap, a, rfl, _⟩ := h'
  have H := Lib.hid h
  clear h
  go_enter Try.func32, Try.ntmps32
  go_wp2_with (first | (go_at_call 33; (with_reducible refine (l1In_yes _ _ _ _ (by omega)).mono ?_); rintro e w1 ⟨rfl, rfl⟩) | (go_at_call 58; (with_reducible refine (l1All_yes _ _ _ _ _ H.out (by omega) t3).mono ?_); rintro e w1 ⟨rfl, rfl⟩))
  go_ret
  exact ⟨rfl, rfl⟩

set_option maxHeartbeats 400000 in
theorem geTrain_no (v : Value) (xs : List Int) (w : World) (h : ArgI w v xs) (ht : ¬ Train xs) (hm : xs.length ≤ 1048576) :
    Calls Try.prog 32 #[v] w fun e w' => e = .returned (.bool false) ∧ w = w' := by
  have h' := h
  obtain ⟨a0, cap, a, rfl, _⟩ := h'
  have H := Lib.hid h
  clear h
  by_cases l1 : 2 ≤ (xs.length : Int) ∧ (xs.length : Int) ≤ 6
  · have t3 : ¬ ∀ i, i < xs.length → 1 ≤ xs.getD i 0 ∧ xs.getD i 0 ≤ 300 := fun g => ht ⟨by omega, g⟩
    clear ht
    go_enter Try.func32, Try.ntmps32
    go_wp2_with (first | (go_at_call 33; (with_reducible refine (l1In_yes _ _ _ _ l1).mono ?_); rintro e w1 ⟨rfl, rfl⟩) | (go_at_call 58; (with_reducible refine (l1All_no _ _ _ _ _ H.out (by omega) t3).mono ?_); rintro e w1 ⟨rfl, rfl⟩))
    go_ret
    exact ⟨rfl, rfl⟩
  · clear ht
    go_enter Try.func32, Try.ntmps32
    go_wp2_with (first | (go_at_call 33; (with_reducible refine (l1In_no _ _ _ _ l1).mono ?_); rintro e w1 ⟨rfl, rfl⟩))
    go_ret
    exact ⟨rfl, rfl⟩
end Go.Proofs.Ytnnhjnogebicbab
