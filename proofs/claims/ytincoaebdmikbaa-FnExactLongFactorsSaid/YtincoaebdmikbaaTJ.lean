/- The factors with the greatest order: the mathematics. Nothing of the program. -/
import Derived.Test.YtincoaebdmikbaaT1
namespace Go.Proofs.Ytincoaebdmikbaa
open Go.RowKit

/-- The greatest order of the factors less than k. -/
def longM (p k : Nat) : Nat := (List.range k).foldl (fun d f => max d (ordT p f)) 0

theorem longM_zero (p : Nat) : longM p 0 = 0 := rfl

theorem longM_succ (p k : Nat) : longM p (k + 1) = max (longM p k) (ordT p k) := by simp [longM, List.range_succ, List.foldl_append]

theorem longM_ge (p k f : Nat) (h : f < k) : ordT p f ≤ longM p k := by
  induction k with
  | zero => omega
  | succ k ih =>
    rw [longM_succ]
    rcases Nat.lt_or_ge f k with g | g
    · have := ih g; omega
    · obtain rfl : f = k := by omega
      omega

/-- Of these those with an order, and with the greatest one. -/
def longL (p k : Nat) : List Int := selT (fun f => ordT p f == longM p k && ordT p f != 0) k

theorem longL_length (p k : Nat) : (longL p k).length ≤ k := selT_length _ _

theorem selT_none (c : Nat → Bool) (n : Nat) (h : ∀ k, k < n → c k = false) : selT c n = [] := by
  unfold selT
  rw [List.filter_eq_nil_iff.2 fun k hk => by rw [h k (List.mem_range.1 hk)]; simp]
  rfl

theorem longL_skip (p k : Nat) (h : ordT p k = 0) : longL p (k + 1) = longL p k ∧ longM p (k + 1) = longM p k := by
  have hm : longM p (k + 1) = longM p k := by rw [longM_succ, h]; omega
  refine ⟨?_, hm⟩
  unfold longL
  rw [hm, ← selT_no _ k (by simp [h])]

theorem longL_less (p k : Nat) (h : ordT p k < longM p k) : longL p (k + 1) = longL p k ∧ longM p (k + 1) = longM p k := by
  have hm : longM p (k + 1) = longM p k := by rw [longM_succ]; omega
  refine ⟨?_, hm⟩
  unfold longL
  rw [hm, ← selT_no _ k (by simp; omega)]

theorem longL_same (p k : Nat) (h : ordT p k = longM p k) (h0 : ordT p k ≠ 0) : longL p (k + 1) = longL p k ++ [(k : Int)] ∧ longM p (k + 1) = longM p k := by
  have hm : longM p (k + 1) = longM p k := by rw [longM_succ]; omega
  refine ⟨?_, hm⟩
  unfold longL
  rw [hm, ← selT_yes _ k (by simp [h]; omega)]

theorem longL_more (p k : Nat) (h : longM p k < ordT p k) : longL p (k + 1) = [(k : Int)] ∧ longM p (k + 1) = ordT p k := by
  have hm : longM p (k + 1) = ordT p k := by rw [longM_succ]; omega
  refine ⟨?_, hm⟩
  unfold longL
  rw [hm, ← selT_yes _ k (by simp; omega), selT_none _ k (fun f hf => by have := longM_ge p k f hf; simp; omega)]
  rfl

theorem longM_hit (p k : Nat) (hk : 1 ≤ k) : ∃ f, f < k ∧ ordT p f = longM p k := by
  induction k with
  | zero => omega
  | succ k ih =>
    rw [longM_succ]
    by_cases h : longM p k ≤ ordT p k
    · exact ⟨k, by omega, by omega⟩
    · rcases Nat.eq_zero_or_pos k with e | e
      · subst e
        rw [longM_zero] at h
        omega
      · obtain ⟨f, hf, hx⟩ := ih e
        exact ⟨f, by omega, by omega⟩

theorem longL_one (p : Nat) (h : 3 ≤ p ∧ p ≤ 60) : longL p 1 = [] ∧ longM p 1 = 0 := by
  have h0 : ordT p 0 = 0 := (ord_none p 0 h (by omega) (by rw [Nat.gcd_zero_right]; omega)).1
  have := longL_skip p 0 h0
  exact ⟨this.1, this.2⟩

theorem longL_all (p : Nat) (h : 3 ≤ p ∧ p ≤ 60) : longL p p = selT (fun f => ordT p f == longM p p) p := by
  have h1 := (ord_all p 1 h (by omega) (by simp)).1
  have h2 := longM_ge p p 1 (by omega)
  unfold longL
  refine selT_congr _ _ p fun k _ => ?_
  rw [Bool.eq_iff_iff]
  simp
  omega

theorem longM_le (p k : Nat) (h : 3 ≤ p ∧ p ≤ 60) (hk : k ≤ p) : longM p k ≤ 60 := by
  induction k with
  | zero => rw [longM_zero]; omega
  | succ k ih =>
    rw [longM_succ]
    have := ih (by omega)
    by_cases hg : Nat.gcd p k = 1
    · have := (ord_all p k h (by omega) hg).2.1
      omega
    · have := (ord_none p k h (by omega) hg).1
      omega

/-- The orders of the factors less than k; 0 for the others. -/
def ordL (p k : Nat) : List Int := (List.range 60).map fun (f : Nat) => if f < k then ((ordT p f : Nat) : Int) else 0

theorem ordL_length (p k : Nat) : (ordL p k).length = 60 := by simp [ordL]

theorem ordL_zero (p : Nat) : ordL p 0 = List.replicate 60 0 := by
  have : ∀ m, ((List.range m).map fun (f : Nat) => if f < 0 then ((ordT p f : Nat) : Int) else 0) = List.replicate m 0 := fun m => by
    apply List.ext_getElem (by simp)
    intro i h1 h2
    simp
  exact this 60

theorem ordL_get (p k f : Nat) (h : f < k) (hf : f < 60) : (ordL p k).getD f 0 = ((ordT p f : Nat) : Int) := by
  simp [ordL, List.getD, List.getElem?_map, List.getElem?_range hf, h]

theorem ordL_set (p k : Nat) : (ordL p k).set k ((ordT p k : Nat) : Int) = ordL p (k + 1) := by
  apply List.ext_getElem (by simp [ordL])
  intro i h1 h2
  rw [List.getElem_set]
  by_cases e : k = i
  · rw [if_pos e]
    subst e
    simp [ordL]
  · rw [if_neg e]
    simp only [ordL, List.getElem_map, List.getElem_range]
    by_cases g : i < k
    · rw [if_pos g, if_pos (by omega)]
    · rw [if_neg g, if_neg (by omega)]

end Go.Proofs.Ytincoaebdmikbaa
