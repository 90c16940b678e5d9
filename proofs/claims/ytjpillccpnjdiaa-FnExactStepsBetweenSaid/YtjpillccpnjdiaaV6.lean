/- The lines between two points. -/
import Derived.Test.YtjpillccpnjdiaaV5
import Derived.Test.YtjpillccpnjdiaaW4
namespace Go.Proofs.Ytjpillccpnjdiaa
open Go.RowKit

theorem walk_OneString (p : Int) (w : World) (_ : (Lit.int .i64 p).wf = true) :
    Calls Try.prog 12 #[.int .i64 p] w fun e w' => e = .returned (.bool true) ∧ Below w.heap.size w w' := by
  by_cases h : 3 ≤ p ∧ p ≤ 60
  · obtain ⟨p, rfl⟩ := Int.eq_ofNat_of_zero_le (show 0 ≤ p by omega)
    have h1 : 3 ≤ p ∧ p ≤ 60 := by omega
    exact core_OneString _ _ true w (by have := onesTo_length p (p / 2); omega) (fun W => sOneString_yes p W h1) (fun W => iOneString_yes p W h1)
  · exact core_OneString _ [] false w (by simp) (fun W => sOneString_no _ W h) (fun W => iOneString_no _ W h)

set_option maxHeartbeats 400000 in
theorem index_at (v : Value) (xs : List Int) (t : Int) (i : Nat) (B : Nat) (e : TypeId) (w : World) (h : Ints w B e v xs) (hi : i < xs.length) (ht : xs.getD i 0 = t) (hl : ∀ j, j < i → xs.getD j 0 ≠ t) (hn : xs.length ≤ 1000000000) :
    Calls Try.prog 57 #[v, .int .i64 t] w fun e w' => e = .returned (.int .i64 i) ∧ w = w' := by
  obtain ⟨a1, c1, g1, rfl, ha1, _, _, _, hc1, _⟩ := h.view
  clear h
  have HC := Lib.hid hc1
  have HL := Lib.hid hl
  have HT := Lib.hid ht
  clear ht
  have HA := Lib.hid ha1
  clear hc1 ha1 hl
  go_enter Try.func57, Try.ntmps57
  go_wp2
  go_loop [8] (fun u => ∃ j : Nat, j ≤ i ∧ u = .int .i64 j) (fun u => xs.length - (intOf u).toNat)
  case atStart => exact ⟨0, Nat.zero_le _, rfl⟩
  case round =>
    obtain ⟨j, hj, rfl⟩ := hrel
    by_cases hlt : j < xs.length
    · obtain rfl := HA.out (by omega)
      have cc := HC.out j hlt
      obtain ⟨y, hy⟩ : ∃ y, y = xs.getD j 0 := ⟨_, rfl⟩
      rw [← hy] at cc
      have HYY := Lib.hid hy
      clear hy
      by_cases hji : j = i
      · subst hji
        have hb : (t == y) = true := by rw [HYY.out, HT.out]; simp
        go_wp2
        go_ret
        exact ⟨rfl, rfl⟩
      · have hb : (t == y) = false := beq_eq_false_iff_ne.2 (by rw [HYY.out]; exact Ne.symm (HL.out j (by omega)))
        go_wp2
        go_round
        case rel => exact ⟨j + 1, by omega, by go_num⟩
        case measure => simp [intOf]; omega
    · omega

set_option maxHeartbeats 400000 in
theorem index_none (v : Value) (xs : List Int) (t : Int) (B : Nat) (e : TypeId) (w : World) (h : Ints w B e v xs) (hl : ∀ j, j < xs.length → xs.getD j 0 ≠ t) (hn : xs.length ≤ 1000000000) :
    Calls Try.prog 57 #[v, .int .i64 t] w fun e w' => e = .returned (.int .i64 (-1)) ∧ w = w' := by
  obtain ⟨a1, c1, g1, rfl, ha1, _, _, _, hc1, _⟩ := h.view
  clear h
  have HC := Lib.hid hc1
  have HL := Lib.hid hl
  have HA := Lib.hid ha1
  clear hc1 ha1 hl
  go_enter Try.func57, Try.ntmps57
  go_wp2
  go_loop [8] (fun u => ∃ j : Nat, j ≤ xs.length ∧ u = .int .i64 j) (fun u => xs.length - (intOf u).toNat)
  case atStart => exact ⟨0, Nat.zero_le _, rfl⟩
  case round =>
    obtain ⟨j, hj, rfl⟩ := hrel
    by_cases hlt : j < xs.length
    · obtain rfl := HA.out (by omega)
      have cc := HC.out j hlt
      obtain ⟨y, hy⟩ : ∃ y, y = xs.getD j 0 := ⟨_, rfl⟩
      rw [← hy] at cc
      have HYY := Lib.hid hy
      clear hy
      have hb : (t == y) = false := beq_eq_false_iff_ne.2 (by rw [HYY.out]; exact Ne.symm (HL.out j hlt))
      go_wp2
      go_round
      case rel => exact ⟨j + 1, by omega, by go_num⟩
      case measure => simp [intOf]; omega
    · go_wp2
      go_ret
      exact ⟨rfl, rfl⟩

theorem IntsIn.ints {e : TypeId} {w : World} {B T : Nat} {v : Value} {xs : List Int} (h : IntsIn e w B T v xs) : Ints w B e v xs := h.1

theorem strL_get (p s k n j : Nat) (h : j < n) : (strL p s k n).getD j 0 = atI p s k j := by
  simp [strL, List.getD, List.getElem?_map, List.getElem?_range h]

/-! the lines between two points, of the program -/
set_option maxHeartbeats 400000 in
theorem iStepsBetween_yes (p s k i : Nat) (t : Int) (w : World) (h : 3 ≤ p ∧ p ≤ 60 ∧ 1 ≤ s ∧ s < p) (hk : k < p) (hi : i < p / Nat.gcd p s) (ht : atI p s k i = t) (hl : ∀ j, j < i → atI p s k j ≠ t) :
    Calls Try.prog 43 #[.agg #[.int .i64 p, .int .i64 s], .int .i64 k, .int .i64 t] w fun e w' => e = .returned (.tuple #[.int .i64 i, .bool true]) ∧ Below w.heap.size w w' := by
  have hd : p / Nat.gcd p s ≤ p := Nat.div_le_self _ _
  have hlen := strL_length p s k (p / Nat.gcd p s)
  have e1 : (strL p s k (p / Nat.gcd p s)).getD i 0 = t := by rw [strL_get _ _ _ _ _ hi]; exact ht
  have e2 : ∀ j, j < i → (strL p s k (p / Nat.gcd p s)).getD j 0 ≠ t := fun j hj => by rw [strL_get _ _ _ _ _ (by omega)]; exact hl j hj
  have E1 := Lib.hid e1
  have E2 := Lib.hid e2
  have HH := Lib.hid hlen
  clear e1 e2 ht hl hlen
  go_enter Try.func43, Try.ntmps43
  go_wp2_with (first | (go_at_call 29; (with_reducible refine (iStringOf_yes _ _ _ _ h hk).mono ?_); rintro e w1 ⟨v, rfl, kv, hb⟩) | (go_at_call 57; (with_reducible refine (index_at _ _ _ i _ _ _ kv.ints (by rw [HH.out]; exact hi) E1.out E2.out (by rw [HH.out]; omega)).mono ?_); rintro e w2 ⟨rfl, rfl⟩))
  go_ret2
  exact ⟨rfl, Below.trans (by go_grown) (hb.mono (by simp))⟩

set_option maxHeartbeats 400000 in
theorem iStepsBetween_none (p s k : Nat) (t : Int) (w : World) (h : 3 ≤ p ∧ p ≤ 60 ∧ 1 ≤ s ∧ s < p) (hk : k < p) (hl : ∀ j, j < p / Nat.gcd p s → atI p s k j ≠ t) :
    Calls Try.prog 43 #[.agg #[.int .i64 p, .int .i64 s], .int .i64 k, .int .i64 t] w fun e w' => e = .returned (.tuple #[.int .i64 0, .bool false]) ∧ Below w.heap.size w w' := by
  have hd : p / Nat.gcd p s ≤ p := Nat.div_le_self _ _
  have hlen := strL_length p s k (p / Nat.gcd p s)
  have e2 : ∀ j, j < (strL p s k (p / Nat.gcd p s)).length → (strL p s k (p / Nat.gcd p s)).getD j 0 ≠ t := fun j hj => by rw [strL_get _ _ _ _ _ (by omega)]; exact hl j (by omega)
  have E2 := Lib.hid e2
  have HH := Lib.hid hlen
  clear e2 hl hlen
  go_enter Try.func43, Try.ntmps43
  go_wp2_with (first | (go_at_call 29; (with_reducible refine (iStringOf_yes _ _ _ _ h hk).mono ?_); rintro e w1 ⟨v, rfl, kv, hb⟩) | (go_at_call 57; (with_reducible refine (index_none _ _ _ _ _ _ kv.ints E2.out (by rw [HH.out]; omega)).mono ?_); rintro e w2 ⟨rfl, rfl⟩))
  go_ret2
  exact ⟨rfl, Below.trans (by go_grown) (hb.mono (by simp))⟩

set_option maxHeartbeats 400000 in
theorem iStepsBetween_bad (p s k t : Int) (w : World) (h : ¬ ((3 ≤ p ∧ p ≤ 60 ∧ 1 ≤ s ∧ s < p) ∧ (0 ≤ k ∧ k < p))) :
    Calls Try.prog 43 #[.agg #[.int .i64 p, .int .i64 s], .int .i64 k, .int .i64 t] w fun e w' => e = .returned (.tuple #[.int .i64 0, .bool false]) ∧ Below w.heap.size w w' := by
  have H := Lib.hid h
  clear h
  go_enter Try.func43, Try.ntmps43
  go_wp2_with (go_at_call 29; (with_reducible refine (iStringOf_no _ _ _ _ H.out).mono ?_); rintro e w1 ⟨v, rfl, kv, hb⟩)
  go_ret2
  exact ⟨rfl, Below.trans (by go_grown) (hb.mono (by simp))⟩

/-! .. and of the model -/
set_option maxHeartbeats 400000 in
theorem sStepsBetween_yes (p s k i : Nat) (t : Int) (w : World) (h : 3 ≤ p ∧ p ≤ 60 ∧ 1 ≤ s ∧ s < p) (hk : k < p) (hi : i < p / Nat.gcd p s) (ht : atI p s k i = t) (hl : ∀ j, j < i → atI p s k j ≠ t) :
    Calls Try.prog 42 #[.agg #[.int .i64 p, .int .i64 s], .int .i64 k, .int .i64 t] w fun e w' => e = .returned (.tuple #[.int .i64 i, .bool true]) ∧ Below w.heap.size w w' := by
  have g : 3 ≤ (p : Int) ∧ (p : Int) ≤ 60 ∧ 1 ≤ (s : Int) ∧ (s : Int) < p := by omega
  have htb : 0 ≤ t ∧ t ≤ (p : Int) - 1 := by have := atI_bd p s k i (by omega); omega
  have hd : p / Nat.gcd p s ≤ p := Nat.div_le_self _ _
  have hp := h.1
  have hp' := h.2.1
  have hlen := strL_length p s k (p / Nat.gcd p s)
  have HLN := Lib.hid hlen
  have HL := Lib.hid hl
  have HT := Lib.hid ht
  clear ht
  clear hl hlen
  go_enter Try.func42, Try.ntmps42
  go_wp2_with (first | (go_at_call 48; (with_reducible refine (srAsked_yes _ _ _ _ g (by omega)).mono ?_); rintro e w1 ⟨rfl, hb⟩; obtain ⟨hc, hf⟩ := bcell hb; (have hz : w.heap.size < w1.heap.size := by (have := hb.size; (try simp at this); omega)); (have hB : Below w.heap.size w w1 := by (refine Below.trans ?_ (hb.mono (by first | (simp; done) | omega | (simp; omega))); go_grown))) | (go_at_call 49; (with_reducible refine (l1In_yes _ _ _ _ (by omega)).mono ?_); rintro e w1 ⟨rfl, rfl⟩) | (go_at_call 54; (with_reducible refine (srString_any _ _ _ _ h hk).mono ?_); rintro e w2 ⟨v, rfl, hI, hb2⟩; obtain ⟨a0, c0, g0, rfl, ha0, _, hm0, _, hc0, _⟩ := hI.view))
  have HA := Lib.hid ha0
  have HC := Lib.hid hc0
  clear ha0 hc0 hI
  rw [HLN.out] at hm0 ⊢
  have hB2 := hB.trans (hb2.mono (Nat.le_of_lt hz))
  go_loop [26] (fun u => ∃ j : Nat, j ≤ i ∧ u = .int .i64 j) (fun u => p / Nat.gcd p s - (intOf u).toNat)
  case atStart => exact ⟨0, Nat.zero_le _, rfl⟩
  case round =>
    obtain ⟨j, hj, rfl⟩ := hrel
    by_cases hlt : j < p / Nat.gcd p s
    · obtain rfl := HA.out (by rw [HLN.out]; omega)
      have cc := HC.out j (by rw [HLN.out]; exact hlt)
      rw [strL_get _ _ _ _ _ hlt] at cc
      obtain ⟨y, hy⟩ : ∃ y, y = atI p s k j := ⟨_, rfl⟩
      rw [← hy] at cc
      have HYY := Lib.hid hy
      clear hy
      by_cases hji : j = i
      · subst hji
        have hb : (y == t) = true := by rw [HYY.out, HT.out]; simp
        go_wp2
        go_ret2
        exact ⟨rfl, hB2⟩
      · have hb : (y == t) = false := beq_eq_false_iff_ne.2 (by rw [HYY.out]; exact HL.out j (by omega))
        go_wp2
        go_round
        case rel => exact ⟨j + 1, by omega, by go_num⟩
        case measure => simp [intOf]; omega
    · omega

set_option maxHeartbeats 400000 in
theorem sStepsBetween_none (p s k : Nat) (t : Int) (w : World) (h : 3 ≤ p ∧ p ≤ 60 ∧ 1 ≤ s ∧ s < p) (hk : k < p) (htb : 0 ≤ t ∧ t ≤ (p : Int) - 1) (hl : ∀ j, j < p / Nat.gcd p s → atI p s k j ≠ t) :
    Calls Try.prog 42 #[.agg #[.int .i64 p, .int .i64 s], .int .i64 k, .int .i64 t] w fun e w' => e = .returned (.tuple #[.int .i64 0, .bool false]) ∧ Below w.heap.size w w' := by
  have g : 3 ≤ (p : Int) ∧ (p : Int) ≤ 60 ∧ 1 ≤ (s : Int) ∧ (s : Int) < p := by omega
  have hd : p / Nat.gcd p s ≤ p := Nat.div_le_self _ _
  have hp := h.1
  have hp' := h.2.1
  have hlen := strL_length p s k (p / Nat.gcd p s)
  have HLN := Lib.hid hlen
  have HL := Lib.hid hl
  clear hl hlen
  go_enter Try.func42, Try.ntmps42
  go_wp2_with (first | (go_at_call 48; (with_reducible refine (srAsked_yes _ _ _ _ g (by omega)).mono ?_); rintro e w1 ⟨rfl, hb⟩; obtain ⟨hc, hf⟩ := bcell hb; (have hz : w.heap.size < w1.heap.size := by (have := hb.size; (try simp at this); omega)); (have hB : Below w.heap.size w w1 := by (refine Below.trans ?_ (hb.mono (by first | (simp; done) | omega | (simp; omega))); go_grown))) | (go_at_call 49; (with_reducible refine (l1In_yes _ _ _ _ (by omega)).mono ?_); rintro e w1 ⟨rfl, rfl⟩) | (go_at_call 54; (with_reducible refine (srString_any _ _ _ _ h hk).mono ?_); rintro e w2 ⟨v, rfl, hI, hb2⟩; obtain ⟨a0, c0, g0, rfl, ha0, _, hm0, _, hc0, _⟩ := hI.view))
  have HA := Lib.hid ha0
  have HC := Lib.hid hc0
  clear ha0 hc0 hI
  rw [HLN.out] at hm0 ⊢
  have hB2 := hB.trans (hb2.mono (Nat.le_of_lt hz))
  go_loop [26] (fun u => ∃ j : Nat, j ≤ p / Nat.gcd p s ∧ u = .int .i64 j) (fun u => p / Nat.gcd p s - (intOf u).toNat)
  case atStart => exact ⟨0, Nat.zero_le _, rfl⟩
  case round =>
    obtain ⟨j, hj, rfl⟩ := hrel
    by_cases hlt : j < p / Nat.gcd p s
    · obtain rfl := HA.out (by rw [HLN.out]; omega)
      have cc := HC.out j (by rw [HLN.out]; exact hlt)
      rw [strL_get _ _ _ _ _ hlt] at cc
      obtain ⟨y, hy⟩ : ∃ y, y = atI p s k j := ⟨_, rfl⟩
      rw [← hy] at cc
      have HYY := Lib.hid hy
      clear hy
      have hb : (y == t) = false := beq_eq_false_iff_ne.2 (by rw [HYY.out]; exact HL.out j hlt)
      go_wp2
      go_round
      case rel => exact ⟨j + 1, by omega, by go_num⟩
      case measure => simp [intOf]; omega
    · go_wp2
      go_ret2
      exact ⟨rfl, hB2⟩

set_option maxHeartbeats 400000 in
theorem sStepsBetween_bad (p s k t : Int) (w : World) (h : ¬ ((3 ≤ p ∧ p ≤ 60 ∧ 1 ≤ s ∧ s < p) ∧ (0 ≤ k ∧ k < p) ∧ (0 ≤ t ∧ t ≤ p - 1))) :
    Calls Try.prog 42 #[.agg #[.int .i64 p, .int .i64 s], .int .i64 k, .int .i64 t] w fun e w' => e = .returned (.tuple #[.int .i64 0, .bool false]) ∧ Below w.heap.size w w' := by
  by_cases h1 : (3 ≤ p ∧ p ≤ 60 ∧ 1 ≤ s ∧ s < p) ∧ (0 ≤ k ∧ k < p)
  · have h2 : ¬ (0 ≤ t ∧ t ≤ p - 1) := by omega
    obtain ⟨h1, hk⟩ := h1
    have hp := h1.1
    have hp' := h1.2.1
    clear h
    go_enter Try.func42, Try.ntmps42
    go_wp2_with (first | (go_at_call 48; (with_reducible refine (srAsked_yes _ _ _ _ h1 hk).mono ?_); rintro e w1 ⟨rfl, hb⟩; obtain ⟨hc, hf⟩ := bcell hb; (have hz : w.heap.size < w1.heap.size := by (have := hb.size; (try simp at this); omega)); (have hB : Below w.heap.size w w1 := by (refine Below.trans ?_ (hb.mono (by first | (simp; done) | omega | (simp; omega))); go_grown))) | (go_at_call 49; (with_reducible refine (l1In_no _ _ _ _ h2).mono ?_); rintro e w1 ⟨rfl, rfl⟩))
    go_ret2
    exact ⟨rfl, hB⟩
  · have H1 := Lib.hid h1
    clear h h1
    go_enter Try.func42, Try.ntmps42
    go_wp2_with (first | (go_at_call 48; (with_reducible refine (srAsked_no _ _ _ _ H1.out).mono ?_); rintro e w1 ⟨rfl, hb⟩; obtain ⟨hc, hf⟩ := bcell hb; (have hz : w.heap.size < w1.heap.size := by (have := hb.size; (try simp at this); omega)); (have hB : Below w.heap.size w w1 := by (refine Below.trans ?_ (hb.mono (by first | (simp; done) | omega | (simp; omega))); go_grown))))
    go_ret2
    exact ⟨rfl, hB⟩

set_option maxHeartbeats 400000 in
theorem core_StepsBetween (p s k t n : Int) (b : Bool) (w : World)
    (hs : ∀ W, Calls Try.prog 42 #[.agg #[.int .i64 p, .int .i64 s], .int .i64 k, .int .i64 t] W fun e w' => e = .returned (.tuple #[.int .i64 n, .bool b]) ∧ Below W.heap.size W w')
    (hi : ∀ W, Calls Try.prog 43 #[.agg #[.int .i64 p, .int .i64 s], .int .i64 k, .int .i64 t] W fun e w' => e = .returned (.tuple #[.int .i64 n, .bool b]) ∧ Below W.heap.size W w') :
    Calls Try.prog 13 #[.agg #[.int .i64 p, .int .i64 s], .int .i64 k, .int .i64 t] w fun e w' => e = .returned (.bool true) ∧ Below w.heap.size w w' := by
  have HS := Lib.hid hs
  have HI := Lib.hid hi
  clear hs hi
  go_enter Try.func13, Try.ntmps13
  go_wp2_with (first | (go_at_call 16; (with_reducible refine (toStar_any _ _ _).mono ?_); rintro e w1 ⟨rfl, hb⟩; obtain ⟨hc, hf⟩ := bcell hb; (have hz : w.heap.size < w1.heap.size := by (have := hb.size; (try simp at this); omega)); (have hB : Below w.heap.size w w1 := by (refine Below.trans ?_ (hb.mono (by first | (simp; done) | omega | (simp; omega))); go_grown))) | (go_at_call 42; (with_reducible refine (HS.out _).mono ?_); rintro e w1 ⟨rfl, hb⟩; obtain ⟨hc, hf⟩ := bcell hb; (have hz : w.heap.size < w1.heap.size := by (have := hb.size; (try simp at this); omega)); (have hB : Below w.heap.size w w1 := by (refine Below.trans ?_ (hb.mono (by first | (simp; done) | omega | (simp; omega))); go_grown))) | (go_at_call 43; (with_reducible refine (HI.out _).mono ?_); rintro e w1 ⟨rfl, hb⟩; obtain ⟨hc, hf⟩ := bcell hb; (have hz : w.heap.size < w1.heap.size := by (have := hb.size; (try simp at this); omega)); (have hB : Below w.heap.size w w1 := by (refine Below.trans ?_ (hb.mono (by first | (simp; done) | omega | (simp; omega))); go_grown))))
  go_ret
  exact ⟨rfl, hB⟩

theorem walk_StepsBetween (p s k t : Int) (w : World) (_ : (Lit.int .i64 p).wf = true) (_ : (Lit.int .i64 s).wf = true) (_ : (Lit.int .i64 k).wf = true) (_ : (Lit.int .i64 t).wf = true) :
    Calls Try.prog 13 #[.agg #[.int .i64 p, .int .i64 s], .int .i64 k, .int .i64 t] w fun e w' => e = .returned (.bool true) ∧ Below w.heap.size w w' := by
  by_cases h : (3 ≤ p ∧ p ≤ 60 ∧ 1 ≤ s ∧ s < p) ∧ (0 ≤ k ∧ k < p)
  · by_cases ht : 0 ≤ t ∧ t ≤ p - 1
    · obtain ⟨p, rfl⟩ := Int.eq_ofNat_of_zero_le (show 0 ≤ p by omega)
      obtain ⟨s, rfl⟩ := Int.eq_ofNat_of_zero_le (show 0 ≤ s by omega)
      obtain ⟨k, rfl⟩ := Int.eq_ofNat_of_zero_le (show 0 ≤ k by omega)
      have h1 : 3 ≤ p ∧ p ≤ 60 ∧ 1 ≤ s ∧ s < p := by omega
      rcases least (fun j => atI p s k j = t) (p / Nat.gcd p s) with ⟨i, hi1, hi2, hi3⟩ | hno
      · exact core_StepsBetween _ _ _ _ i true w (fun W => sStepsBetween_yes p s k i t W h1 (by omega) hi1 hi2 hi3) (fun W => iStepsBetween_yes p s k i t W h1 (by omega) hi1 hi2 hi3)
      · exact core_StepsBetween _ _ _ _ 0 false w (fun W => sStepsBetween_none p s k t W h1 (by omega) ht hno) (fun W => iStepsBetween_none p s k t W h1 (by omega) hno)
    · refine core_StepsBetween _ _ _ _ 0 false w (fun W => sStepsBetween_bad _ _ _ _ W (by omega)) (fun W => ?_)
      obtain ⟨p, rfl⟩ := Int.eq_ofNat_of_zero_le (show 0 ≤ p by omega)
      obtain ⟨s, rfl⟩ := Int.eq_ofNat_of_zero_le (show 0 ≤ s by omega)
      obtain ⟨k, rfl⟩ := Int.eq_ofNat_of_zero_le (show 0 ≤ k by omega)
      exact iStepsBetween_none p s k t W (by omega) (by omega) fun j _ e => by
        have := atI_bd p s k j (by omega)
        omega
  · exact core_StepsBetween _ _ _ _ 0 false w (fun W => sStepsBetween_bad _ _ _ _ W (by omega)) (fun W => iStepsBetween_bad _ _ _ _ W h)

end Go.Proofs.Ytjpillccpnjdiaa
