/- Times tables: the mathematics. Nothing of the program. -/
import Derived.Test.YtincoaebdmikbabB4
namespace Go.Proofs.Ytincoaebdmikbab
open Go.RowKit

theorem pow_odd (p a s t : Nat) (h : t % 2 = 1) : (a * s % p) * (s * s % p) ^ (t / 2) % p = a * s ^ t % p := by
  have e : s ^ t = s * (s * s) ^ (t / 2) := by
    have ht : t = 2 * (t / 2) + 1 := by omega
    calc s ^ t = s ^ (2 * (t / 2) + 1) := by rw [← ht]
      _ = s * (s * s) ^ (t / 2) := by rw [Nat.pow_succ, Nat.pow_mul, Nat.pow_two, Nat.mul_comm]
  rw [e, ← Nat.mul_assoc, Nat.mul_mod, Nat.mod_mod, ← Nat.pow_mod, ← Nat.mul_mod]

theorem pow_even (p a s t : Nat) (h : t % 2 = 0) : a * (s * s % p) ^ (t / 2) % p = a * s ^ t % p := by
  have e : s ^ t = (s * s) ^ (t / 2) := by
    have ht : t = 2 * (t / 2) := by omega
    calc s ^ t = s ^ (2 * (t / 2)) := by rw [← ht]
      _ = (s * s) ^ (t / 2) := by rw [Nat.pow_mul, Nat.pow_two]
  rw [e, Nat.mul_mod, ← Nat.pow_mod, ← Nat.mul_mod]

/-- The least number of times, at least 1, behind which a table leads each point to itself; 0 if there is none. -/
def ordT (p f : Nat) : Nat := (((List.range 60).map (· + 1)).find? fun n => f ^ n % p == 1).getD 0

/-- What the kernel asks of each table. -/
def chkT (p f : Nat) : Bool :=
  if Nat.gcd p f = 1 then
    decide (1 ≤ ordT p f) && decide (ordT p f ≤ 60) && (f ^ ordT p f % p == 1) && ((List.range (ordT p f)).all fun m => m == 0 || f ^ m % p != 1)
      && ((f ^ (ordT p f - 1) % p) * f % p == 1) && ((List.range (f ^ (ordT p f - 1) % p)).all fun k => k * f % p != 1)
  else (ordT p f == 0) && ((List.range p).all fun k => k * f % p != 1)

theorem chkT_all : ((List.range 61).all fun p => decide (p < 3) || (List.range p).all fun f => chkT p f) = true := by decide +kernel

theorem chkT_at (p f : Nat) (h : 3 ≤ p ∧ p ≤ 60) (hf : f < p) : chkT p f = true := by
  have h1 := List.all_eq_true.1 chkT_all p (List.mem_range.2 (by omega))
  rw [Bool.or_eq_true, decide_eq_true_eq] at h1
  rcases h1 with h1 | h1
  · omega
  · exact List.all_eq_true.1 h1 f (List.mem_range.2 hf)

theorem ord_all (p f : Nat) (h : 3 ≤ p ∧ p ≤ 60) (hf : f < p) (hg : Nat.gcd p f = 1) : 1 ≤ ordT p f ∧ ordT p f ≤ 60 ∧ f ^ ordT p f % p = 1 ∧ ∀ m, m < ordT p f → 1 ≤ m → f ^ m % p ≠ 1 := by
  have c := chkT_at p f h hf
  unfold chkT at c
  rw [if_pos hg] at c
  simp only [Bool.and_eq_true, decide_eq_true_eq, beq_iff_eq] at c
  obtain ⟨⟨⟨⟨⟨c1, c2⟩, c3⟩, c4⟩, _⟩, _⟩ := c
  refine ⟨c1, c2, c3, fun m hm h1 => ?_⟩
  have := List.all_eq_true.1 c4 m (List.mem_range.2 hm)
  simp only [Bool.or_eq_true, beq_iff_eq, bne_iff_ne] at this
  rcases this with this | this
  · omega
  · exact this

theorem undo_all (p f : Nat) (h : 3 ≤ p ∧ p ≤ 60) (hf : f < p) (hg : Nat.gcd p f = 1) : (f ^ (ordT p f - 1) % p) * f % p = 1 ∧ ∀ k, k < f ^ (ordT p f - 1) % p → k * f % p ≠ 1 := by
  have c := chkT_at p f h hf
  unfold chkT at c
  rw [if_pos hg] at c
  simp only [Bool.and_eq_true, decide_eq_true_eq, beq_iff_eq] at c
  obtain ⟨⟨_, c5⟩, c6⟩ := c
  refine ⟨c5, fun k hk => ?_⟩
  have := List.all_eq_true.1 c6 k (List.mem_range.2 hk)
  exact bne_iff_ne.1 this

theorem ord_none (p f : Nat) (h : 3 ≤ p ∧ p ≤ 60) (hf : f < p) (hg : Nat.gcd p f ≠ 1) : ordT p f = 0 ∧ ∀ k, k < p → k * f % p ≠ 1 := by
  have c := chkT_at p f h hf
  unfold chkT at c
  rw [if_neg hg] at c
  simp only [Bool.and_eq_true, beq_iff_eq] at c
  refine ⟨c.1, fun k hk => ?_⟩
  exact bne_iff_ne.1 (List.all_eq_true.1 c.2 k (List.mem_range.2 hk))

/-- The numbers less than n of which c holds. -/
def selT (c : Nat → Bool) (n : Nat) : List Int := ((List.range n).filter c).map fun (i : Nat) => (i : Int)

theorem selT_zero (c : Nat → Bool) : selT c 0 = [] := rfl

theorem selT_yes (c : Nat → Bool) (n : Nat) (h : c n = true) : selT c n ++ [(n : Int)] = selT c (n + 1) := by
  simp [selT, List.range_succ, List.filter_append, h]

theorem selT_no (c : Nat → Bool) (n : Nat) (h : c n = false) : selT c n = selT c (n + 1) := by
  simp [selT, List.range_succ, List.filter_append, h]

theorem selT_length (c : Nat → Bool) (n : Nat) : (selT c n).length ≤ n := by
  have := List.length_filter_le c (List.range n)
  rw [List.length_range] at this
  simpa [selT] using this

theorem selT_congr (c d : Nat → Bool) (n : Nat) (h : ∀ k, k < n → c k = d k) : selT c n = selT d n := by
  unfold selT
  rw [List.filter_congr fun k hk => h k (List.mem_range.1 hk)]

/-- The points to which the lines of the first n points lead. -/
def rowT (p f n : Nat) : List Int := (List.range n).map fun (q : Nat) => ((q * f % p : Nat) : Int)

theorem rowT_length (p f n : Nat) : (rowT p f n).length = n := by simp [rowT]

theorem rowT_succ (p f n : Nat) : rowT p f n ++ [((n * f % p : Nat) : Int)] = rowT p f (n + 1) := by simp [rowT, List.range_succ]

theorem rowT_get (p f n q : Nat) (h : q < n) : (rowT p f n).getD q 0 = ((q * f % p : Nat) : Int) := by
  simp [rowT, List.getD, List.getElem?_map, List.getElem?_range h]

end Go.Proofs.Ytincoaebdmikbab
