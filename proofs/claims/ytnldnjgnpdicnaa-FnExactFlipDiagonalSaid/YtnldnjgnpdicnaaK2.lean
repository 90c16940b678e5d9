/- Sets of chords: which lists are one, of the program and of the model. -/
import Derived.Test.YtnldnjgnpdicnaaK1
import Derived.Test.YtnldnjgnpdicnaaC3
namespace Go.Proofs.Ytnldnjgnpdicnaa
open Go.RowKit

/-- Element k is a chord of p points, behind the one before it. -/
def okAt (p : Int) (xs : List (Int × Int)) (k : Nat) : Prop :=
  (0 ≤ (xs.getD k (0, 0)).1 ∧ (xs.getD k (0, 0)).1 < (xs.getD k (0, 0)).2 ∧ (xs.getD k (0, 0)).2 < p) ∧ (0 < k → lessC (xs.getD (k - 1) (0, 0)) (xs.getD k (0, 0)) = true)

instance (p : Int) (xs : List (Int × Int)) (k : Nat) : Decidable (okAt p xs k) := by unfold okAt; infer_instance

/-- A set of chords of p points. -/
def goodC (p : Int) (xs : List (Int × Int)) : Prop := (3 ≤ p ∧ p ≤ 60) ∧ xs.length ≤ 40 ∧ ∀ k, k < xs.length → okAt p xs k

theorem first_bad (p : Int) (xs : List (Int × Int)) (n : Nat) (h : ¬ ∀ k, k < n → okAt p xs k) : ∃ m, m < n ∧ ¬ okAt p xs m ∧ ∀ k, k < m → okAt p xs k := by
  induction n with
  | zero => exact absurd (fun k hk => by omega) h
  | succ n ih =>
    by_cases hn : ∀ k, k < n → okAt p xs k
    · refine ⟨n, by omega, fun ho => h fun k hk => ?_, hn⟩
      by_cases e : k = n
      · rw [e]; exact ho
      · exact hn k (by omega)
    · obtain ⟨m, hm, hb, hl⟩ := ih hn
      exact ⟨m, by omega, hb, hl⟩

theorem not_goodC {p : Int} {xs : List (Int × Int)} (h : ¬ goodC p xs) : ¬ (3 ≤ p ∧ p ≤ 60) ∨ ((3 ≤ p ∧ p ≤ 60) ∧ 40 < xs.length) ∨ ((3 ≤ p ∧ p ≤ 60) ∧ xs.length ≤ 40 ∧ ∃ m, m < xs.length ∧ ¬ okAt p xs m ∧ ∀ k, k < m → okAt p xs k) := by
  by_cases hp : 3 ≤ p ∧ p ≤ 60
  · by_cases hl : xs.length ≤ 40
    · exact .inr (.inr ⟨hp, hl, first_bad p xs _ fun ha => h ⟨hp, hl, ha⟩⟩)
    · exact .inr (.inl ⟨hp, by omega⟩)
  · exact .inl hp

theorem cmp_of_less {a b c d : Int} (h : lessC (a, b) (c, d) = true) : cmpC a b c d = -1 := by
  rw [lessC, decide_eq_true_eq] at h
  simp only at h
  unfold cmpC cmpI
  rcases h with h | ⟨h, g⟩
  · simp [h]
  · subst h
    simp [g]

theorem cmp_not_less {a b c d : Int} (h : lessC (a, b) (c, d) = false) : cmpC a b c d = 0 ∨ cmpC a b c d = 1 := by
  rw [lessC, decide_eq_false_iff_not] at h
  simp only at h
  unfold cmpC cmpI
  split <;> split <;> (try split) <;> (try split) <;> omega

end Go.Proofs.Ytnldnjgnpdicnaa
