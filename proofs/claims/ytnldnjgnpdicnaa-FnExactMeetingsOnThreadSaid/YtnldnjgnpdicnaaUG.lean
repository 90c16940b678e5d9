/- Threads: which lists are some. -/
import Derived.Test.YtnldnjgnpdicnaaUK
namespace Go.Proofs.Ytnldnjgnpdicnaa
open Go.RowKit

/-- Element k is a thread, behind the one before it. -/
def okT (xs : List (Int × Int)) (k : Nat) : Prop :=
  isT (xs.getD k (0, 0)).1 (xs.getD k (0, 0)).2 ∧ (0 < k → lessC (xs.getD (k - 1) (0, 0)) (xs.getD k (0, 0)) = true)

instance (xs : List (Int × Int)) (k : Nat) : Decidable (okT xs k) := by unfold okT; infer_instance

/-- Threads. -/
def goodT (xs : List (Int × Int)) : Prop := (1 ≤ xs.length ∧ xs.length ≤ 30) ∧ ∀ k, k < xs.length → okT xs k

theorem first_badT (xs : List (Int × Int)) (n : Nat) (h : ¬ ∀ k, k < n → okT xs k) : ∃ m, m < n ∧ ¬ okT xs m ∧ ∀ k, k < m → okT xs k := by
  induction n with
  | zero => exact absurd (fun k hk => by omega) h
  | succ n ih =>
    by_cases hn : ∀ k, k < n → okT xs k
    · refine ⟨n, by omega, fun ho => h fun k hk => ?_, hn⟩
      by_cases e : k = n
      · rw [e]; exact ho
      · exact hn k (by omega)
    · obtain ⟨m, hm, hb, hl⟩ := ih hn
      exact ⟨m, by omega, hb, hl⟩

theorem not_goodT {xs : List (Int × Int)} (h : ¬ goodT xs) : xs.length < 1 ∨ 30 < xs.length ∨ ((1 ≤ xs.length ∧ xs.length ≤ 30) ∧ ∃ m, m < xs.length ∧ ¬ okT xs m ∧ ∀ k, k < m → okT xs k) := by
  by_cases hl : 1 ≤ xs.length ∧ xs.length ≤ 30
  · exact .inr (.inr ⟨hl, first_badT xs _ fun ha => h ⟨hl, ha⟩⟩)
  · omega

theorem goodT.at {xs : List (Int × Int)} (h : goodT xs) (k : Nat) (hk : k < xs.length) : isT (xs.getD k (0, 0)).1 (xs.getD k (0, 0)).2 := (h.2 k hk).1

theorem cmp_of_less {a b c d : Int} (h : lessC (a, b) (c, d) = true) : cmpC a b c d = -1 := by
  rw [lessC, decide_eq_true_eq] at h
  simp only at h
  unfold cmpC cmpI
  rcases h with h | ⟨h, g⟩
  · simp [h]
  · subst h
    simp [g]

theorem cmp_not_less {a b c d : Int} (h : lessC (a, b) (c, d) = false) : cmpC a b c d = 0 ∨ cmpC a b c d = 1 := by
  rw [lessC, decide_eq_false_iff_not] at h
  simp only at h
  unfold cmpC cmpI
  split <;> split <;> (try split) <;> (try split) <;> omega

end Go.Proofs.Ytnldnjgnpdicnaa
