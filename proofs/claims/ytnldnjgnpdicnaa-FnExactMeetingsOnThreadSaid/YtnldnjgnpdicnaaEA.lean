/- The edge of threads: which thread it goes along next. Nothing of the program. -/
import Derived.Test.YtnldnjgnpdicnaaU3
import Derived.Test.YtnldnjgnpdicnaaFN
namespace Go.Proofs.Ytnldnjgnpdicnaa
open Go.RowKit
set_option linter.unusedVariables false

/-- Numerator and denominator of the x of the meeting of threads k and i. -/
def exA (xs : List (Int × Int)) (k i : Nat) : Nat := lowA (mxN (xs.getD k (0, 0)).1 (xs.getD k (0, 0)).2 (xs.getD i (0, 0)).1 (xs.getD i (0, 0)).2) (mdN (xs.getD k (0, 0)).1 (xs.getD k (0, 0)).2 (xs.getD i (0, 0)).1 (xs.getD i (0, 0)).2)
def exB (xs : List (Int × Int)) (k i : Nat) : Nat := lowB (mxN (xs.getD k (0, 0)).1 (xs.getD k (0, 0)).2 (xs.getD i (0, 0)).1 (xs.getD i (0, 0)).2) (mdN (xs.getD k (0, 0)).1 (xs.getD k (0, 0)).2 (xs.getD i (0, 0)).1 (xs.getD i (0, 0)).2)

/-- Thread i meets thread k and is behind it. -/
def candE (xs : List (Int × Int)) (k i : Nat) : Bool := decide ((xs.getD k (0, 0)).1 < (xs.getD i (0, 0)).1) && meetB (xs.getD k (0, 0)).1 (xs.getD k (0, 0)).2 (xs.getD i (0, 0)).1 (xs.getD i (0, 0)).2

/-- The next thread among the first n. -/
def nxtE (xs : List (Int × Int)) (k : Nat) : Nat → Option Nat
  | 0 => none
  | i + 1 => if candE xs k i then (match nxtE xs k i with | none => some i | some j => if exA xs k i * exB xs k j ≤ exA xs k j * exB xs k i then some i else some j) else nxtE xs k i

theorem lt_of_less {x y : Int × Int} (h : lessC x y = true) : x.1 ≤ y.1 := by
  rw [lessC, decide_eq_true_eq] at h
  omega

theorem goodT_less {xs : List (Int × Int)} (hg : goodT xs) (i : Nat) : ∀ j, i < j → j < xs.length → lessC (xs.getD i (0, 0)) (xs.getD j (0, 0)) = true
  | 0, h, _ => by omega
  | j + 1, h, hj => by
    have h1 := (hg.2 (j + 1) hj).2 (by omega)
    rw [Nat.add_sub_cancel] at h1
    by_cases e : i = j
    · rw [e]; exact h1
    · have h2 := goodT_less hg i j (by omega) (by omega)
      rw [lessC, decide_eq_true_eq] at *
      omega

theorem cand_after {xs : List (Int × Int)} (hg : goodT xs) {k i : Nat} (hk : k < xs.length) (h : candE xs k i = true) : k < i := by
  unfold candE at h
  rw [Bool.and_eq_true, decide_eq_true_eq] at h
  by_cases e : k < i
  · exact e
  · by_cases e2 : i = k
    · rw [e2] at h; omega
    · have := lt_of_less (goodT_less hg i k (by omega) hk)
      omega

theorem cand_meet {xs : List (Int × Int)} (hg : goodT xs) {k i : Nat} (hki : k < i) (hi : i < xs.length) : candE xs k i = meetB (xs.getD k (0, 0)).1 (xs.getD k (0, 0)).2 (xs.getD i (0, 0)).1 (xs.getD i (0, 0)).2 := by
  unfold candE
  cases hm : meetB (xs.getD k (0, 0)).1 (xs.getD k (0, 0)).2 (xs.getD i (0, 0)).1 (xs.getD i (0, 0)).2 with
  | false => exact Bool.and_false _
  | true =>
    have := lt_of_less (goodT_less hg k i hki hi)
    unfold meetB at hm
    rw [decide_eq_true_eq] at hm
    rw [Bool.and_true, decide_eq_true_eq]
    omega

theorem nxt_start {xs : List (Int × Int)} (hg : goodT xs) (k : Nat) (hk : k < xs.length) : ∀ n, n ≤ k + 1 → nxtE xs k n = none
  | 0, _ => rfl
  | n + 1, h => by
    have hc : candE xs k n = false := by
      cases hc : candE xs k n with
      | false => rfl
      | true => have := cand_after hg hk hc; omega
    rw [nxtE, hc]
    simp only [Bool.false_eq_true, if_false]
    exact nxt_start hg k hk n (by omega)

theorem nxt_some {xs : List (Int × Int)} {k : Nat} : ∀ n j, nxtE xs k n = some j → j < n ∧ candE xs k j = true
  | 0, j, h => by cases h
  | n + 1, j, h => by
    rw [nxtE] at h
    cases hc : candE xs k n with
    | false =>
      rw [hc] at h
      simp only [Bool.false_eq_true, if_false] at h
      have := nxt_some n j h
      exact ⟨by omega, this.2⟩
    | true =>
      rw [hc] at h
      simp only [if_true] at h
      cases hn : nxtE xs k n with
      | none =>
        rw [hn] at h
        simp only [Option.some.injEq] at h
        subst h
        exact ⟨by omega, hc⟩
      | some i =>
        rw [hn] at h
        simp only at h
        split at h
        · simp only [Option.some.injEq] at h
          subst h
          exact ⟨by omega, hc⟩
        · simp only [Option.some.injEq] at h
          subst h
          have := nxt_some n i hn
          exact ⟨by omega, this.2⟩

/-- Two threads behind a thread that meet it at one point are not from one nail. -/
theorem same_x {a b c d d' : Int} (hb : 1 ≤ b) (hac : a < c) (h : (b - d) * (c * b - a * d') = (b - d') * (c * b - a * d)) : d = d' := by
  have e : (c - a) * b * (d - d') = 0 := by grind
  have h1 : (c - a) * b ≠ 0 := Int.mul_ne_zero (by omega) (by omega)
  rcases Int.mul_eq_zero.1 e with h2 | h2
  · exact absurd h2 h1
  · omega

/-- So of two that the edge meets at one point the later one is the flatter one. -/
theorem tie_more {xs : List (Int × Int)} (hg : goodT xs) {k i j : Nat} (hk : k < xs.length) (hji : j < i) (hi : i < xs.length) (hcj : candE xs k j = true) (hci : candE xs k i = true) (h : exA xs k i * exB xs k j = exA xs k j * exB xs k i) : (xs.getD j (0, 0)).1 < (xs.getD i (0, 0)).1 := by
  have hl := goodT_less hg j i hji hi
  have hTk := hg.at k hk
  have hTi := hg.at i hi
  have hTj := hg.at j (by omega)
  unfold candE at hcj hci
  unfold exA exB at h
  obtain ⟨a, b, e1⟩ : ∃ a b, xs.getD k (0, 0) = (a, b) := ⟨_, _, rfl⟩
  obtain ⟨c, d, e2⟩ : ∃ a b, xs.getD i (0, 0) = (a, b) := ⟨_, _, rfl⟩
  obtain ⟨c', d', e3⟩ : ∃ a b, xs.getD j (0, 0) = (a, b) := ⟨_, _, rfl⟩
  rw [e1] at hcj hci hTk h
  rw [e2] at hl hTi hci h ⊢
  rw [e3] at hl hTj hcj h ⊢
  simp only at *
  rw [Bool.and_eq_true, decide_eq_true_eq] at hcj hci
  have m1 := hcj.2
  have m2 := hci.2
  unfold meetB at m1 m2
  rw [decide_eq_true_eq] at m1 m2
  rw [lessC, decide_eq_true_eq] at hl
  simp only at hl
  by_cases hc : c' < c
  · exact hc
  · exfalso
    obtain rfl : c' = c := by omega
    obtain ⟨X, Y, D, hX, hY, hD, q1, _, _, _, q5, _, _, D1, _⟩ := meet_letters a b c' d hTk hTi hci.1 (by omega)
    obtain ⟨X', Y', D', hX', hY', hD', q1', _, _, _, q5', _, _, D1', _⟩ := meet_letters a b c' d' hTk hTj hcj.1 (by omega)
    rw [hX, hD, hX', hD'] at h
    obtain ⟨g, g1, f1, f2⟩ := low_prod X D X' D' D1 D1'
    have f3 : X * D' = X' * D := by rw [f1, f2, h]
    have f4 : (X : Int) * D' = X' * D := by exact_mod_cast f3
    rw [← q1, ← q1', ← q5, ← q5'] at f4
    have ha : 1 ≤ a := hTk.1.1
    have f5 : (a * c') * ((b - d) * (c' * b - a * d')) = (a * c') * ((b - d') * (c' * b - a * d)) := by
      rw [← Int.mul_assoc, ← Int.mul_assoc]; exact f4
    have f6 := Int.eq_of_mul_eq_mul_left (Int.mul_ne_zero (by omega) (by omega)) f5
    have := same_x hTk.2.1 hcj.1 f6
    omega

end Go.Proofs.Ytnldnjgnpdicnaa
