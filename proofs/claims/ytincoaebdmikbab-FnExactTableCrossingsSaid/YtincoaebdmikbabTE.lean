/- Leads of tables: the mathematics. Nothing of the program. -/
import Derived.Test.YtincoaebdmikbabT1
namespace Go.Proofs.Ytincoaebdmikbab
open Go.RowKit

/-- At most n different numbers are less than n. -/
theorem nodup_le (n : Nat) : ∀ (l : List Nat), l.Nodup → (∀ x ∈ l, x < n) → l.length ≤ n := by
  induction n with
  | zero =>
    intro l _ h
    cases l with
    | nil => simp
    | cons a l => exact absurd (h a (by simp)) (by omega)
  | succ n ih =>
    intro l hl h
    have h1 := ih (l.erase n) (hl.erase n) (fun x hx => by
      have := (List.Nodup.mem_erase_iff hl).1 hx
      have := h x this.2
      omega)
    rw [List.length_erase] at h1
    split at h1 <;> omega

theorem least_of {P : Nat → Prop} (h : ∃ k, P k) : ∃ n, P n ∧ ∀ i, i < n → ¬ P i := by
  obtain ⟨k, hk⟩ := h
  induction k using Nat.strongRecOn with
  | _ k ih =>
    by_cases he : ∃ i, i < k ∧ P i
    · obtain ⟨i, hi, hp⟩ := he
      exact ih i hi hp
    · exact ⟨k, hk, fun i hi hp => he ⟨i, hi, hp⟩⟩

/-- The point behind k lines. -/
def itrT (p f q : Nat) : Nat → Nat
  | 0 => q
  | k + 1 => itrT p f q k * f % p

theorem itrT_lt (p f q k : Nat) (hp : 0 < p) (hq : q < p) : itrT p f q k < p := by
  cases k with
  | zero => exact hq
  | succ k => exact Nat.mod_lt _ hp

/-- As which of the first k points, counted from 1 on, one comes to x; 0 if one does not. -/
def comesT (p f q k x : Nat) : Nat :=
  match (List.range k).find? (fun j => itrT p f q j == x) with
  | some j => j + 1
  | none => 0

theorem comesT_zero (p f q x : Nat) : comesT p f q 0 x = 0 := by simp [comesT]

theorem comesT_other (p f q k y : Nat) (h : y ≠ itrT p f q k) : comesT p f q (k + 1) y = comesT p f q k y := by
  unfold comesT
  rw [List.range_succ, List.find?_append]
  have : [k].find? (fun j => itrT p f q j == y) = none := by simp; exact fun e => h e.symm
  rw [this, Option.or_none]

theorem comesT_new (p f q k : Nat) (h : comesT p f q k (itrT p f q k) = 0) : comesT p f q (k + 1) (itrT p f q k) = k + 1 := by
  unfold comesT at h ⊢
  rw [List.range_succ, List.find?_append]
  split at h
  · omega
  · next hn => rw [hn]; simp

theorem comesT_none (p f q k x : Nat) (h : comesT p f q k x = 0) (j : Nat) (hj : j < k) : itrT p f q j ≠ x := by
  unfold comesT at h
  split at h
  · omega
  · next hn =>
    have := List.find?_eq_none.1 hn j (List.mem_range.2 hj)
    simpa using this

theorem comesT_some (p f q k x : Nat) (h : comesT p f q k x ≠ 0) : comesT p f q k x - 1 < k ∧ itrT p f q (comesT p f q k x - 1) = x := by
  unfold comesT at h ⊢
  split
  · next j hj =>
    have h1 := List.find?_some hj
    have h2 := List.mem_range.1 (List.mem_of_find?_eq_some hj)
    rw [Nat.add_sub_cancel]
    exact ⟨h2, by simpa using h1⟩
  · next hn => rw [hn] at h; exact absurd rfl h

theorem comesT_le (p f q k x : Nat) : comesT p f q k x ≤ k := by
  by_cases h : comesT p f q k x = 0
  · omega
  · have := (comesT_some p f q k x h).1; omega

/-- n points are come to before one comes again. -/
def LeadIs (p f q n : Nat) : Prop := comesT p f q n (itrT p f q n) ≠ 0 ∧ ∀ i, i < n → comesT p f q i (itrT p f q i) = 0

theorem lead_distinct {p f q n : Nat} (h : ∀ i, i < n → comesT p f q i (itrT p f q i) = 0) : ((List.range n).map (itrT p f q)).Nodup := by
  unfold List.Nodup
  rw [List.pairwise_map]
  rw [List.pairwise_iff_getElem]
  intro i j hi hj hij
  rw [List.length_range] at hi hj
  rw [List.getElem_range, List.getElem_range]
  exact comesT_none p f q j _ (h j hj) i hij

theorem lead_le' {p f q n : Nat} (hp : 0 < p) (hq : q < p) (h : ∀ i, i < n → comesT p f q i (itrT p f q i) = 0) : n ≤ p := by
  have := nodup_le p _ (lead_distinct h) (fun x hx => by
    obtain ⟨k, _, rfl⟩ := List.mem_map.1 hx
    exact itrT_lt p f q k hp hq)
  simpa using this

theorem lead_le {p f q n : Nat} (hp : 0 < p) (hq : q < p) (h : LeadIs p f q n) : n ≤ p := lead_le' hp hq h.2

theorem lead_exists (p f q : Nat) (hp : 0 < p) (hq : q < p) : ∃ n, LeadIs p f q n := by
  refine least_of (P := fun n => comesT p f q n (itrT p f q n) ≠ 0) ?_ |>.imp fun n ⟨h1, h2⟩ => ⟨h1, fun i hi => Decidable.not_not.1 (h2 i hi)⟩
  by_cases he : ∃ k, comesT p f q k (itrT p f q k) ≠ 0
  · exact he
  · have := lead_le' (n := p + 1) hp hq (fun i _ => Decidable.not_not.1 fun g => he ⟨i, g⟩)
    omega

theorem lead_pos {p f q n : Nat} (h : LeadIs p f q n) : 1 ≤ n := by
  rcases Nat.eq_zero_or_pos n with e | e
  · subst e
    exact absurd (comesT_zero p f q _) h.1
  · exact e

/-- The first m places of the numbers as which one comes. -/
def comesL (p f q k m : Nat) : List Int := (List.range m).map fun (x : Nat) => ((comesT p f q k x : Nat) : Int)

theorem comesL_length (p f q k m : Nat) : (comesL p f q k m).length = m := by simp [comesL]

theorem comesL_zero (p f q m : Nat) : comesL p f q 0 m = List.replicate m 0 := by
  unfold comesL
  apply List.ext_getElem (by simp)
  intro i h1 h2
  simp [comesT_zero]

theorem comesL_get (p f q k m x : Nat) (h : x < m) : (comesL p f q k m).getD x 0 = ((comesT p f q k x : Nat) : Int) := by
  simp [comesL, List.getD, List.getElem?_map, List.getElem?_range h]

theorem comesL_set (p f q k m : Nat) (h : comesT p f q k (itrT p f q k) = 0) : (comesL p f q k m).set (itrT p f q k) ((k : Int) + 1) = comesL p f q (k + 1) m := by
  apply List.ext_getElem (by simp [comesL])
  intro i h1 h2
  rw [List.getElem_set]
  by_cases e : itrT p f q k = i
  · rw [if_pos e]
    subst e
    simp [comesL, comesT_new p f q k h]
  · rw [if_neg e]
    simp [comesL, comesT_other p f q k i (fun g => e g.symm)]

/-- The points that are come to, in this order. -/
def pathT (p f q n : Nat) : List Int := (List.range n).map fun (k : Nat) => ((itrT p f q k : Nat) : Int)

theorem pathT_length (p f q n : Nat) : (pathT p f q n).length = n := by simp [pathT]

theorem pathT_succ (p f q n : Nat) : pathT p f q n ++ [((itrT p f q n : Nat) : Int)] = pathT p f q (n + 1) := by simp [pathT, List.range_succ]

end Go.Proofs.Ytincoaebdmikbab
