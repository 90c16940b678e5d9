/- How many plane pairings there are: a table of nineteen numbers. Nothing of the program. -/
import Derived.Test.YtmfbbbnenngehaaB1
namespace Go.Proofs.Ytmfbbbnenngehaa

/-- How many plane pairings with so many chords there are. -/
def cat (n : Nat) : Nat := [1, 1, 2, 5, 14, 42, 132, 429, 1430, 4862, 16796, 58786, 208012, 742900, 2674440, 9694845, 35357670, 129644790, 477638700].getD n 0

theorem cat_step : ∀ k, k < 18 → cat k * (4 * k + 2) / (k + 2) = cat (k + 1) := by decide

theorem cat_le : ∀ k, k < 16 → 1 ≤ cat k ∧ cat k ≤ 9694845 := by decide

theorem cat_le18 : ∀ k, k < 19 → 1 ≤ cat k ∧ cat k ≤ 477638700 := by decide

/-- The ways with less than i chords under the first one. -/
def catSum (m : Nat) : Nat → Nat
  | 0 => 0
  | i + 1 => catSum m i + cat i * cat (m - 1 - i)

theorem catSum_all18 : ∀ m, m < 19 → 0 < m → catSum m m = cat m := by decide

theorem catSum_all (m : Nat) (h : m < 16) (h0 : 0 < m) : catSum m m = cat m := catSum_all18 m (by omega) h0

theorem catSum_mono (m i j : Nat) (h : i ≤ j) : catSum m i ≤ catSum m j := by
  induction j with
  | zero => rw [Nat.le_zero.1 h]; exact Nat.le_refl _
  | succ j ih =>
    by_cases e : i = j + 1
    · rw [e]; exact Nat.le_refl _
    · exact Nat.le_trans (ih (by omega)) (by simp [catSum])

theorem catSum_le (m i : Nat) (hm : m < 16) (h0 : 0 < m) (hi : i ≤ m) : catSum m i ≤ 9694845 := by
  have := catSum_mono m i m hi
  rw [catSum_all m hm h0] at this
  exact Nat.le_trans this (cat_le m hm).2

theorem catSum_le18 (m i : Nat) (hm : m < 19) (h0 : 0 < m) (hi : i ≤ m) : catSum m i ≤ 477638700 := by
  have := catSum_mono m i m hi
  rw [catSum_all18 m hm h0] at this
  exact Nat.le_trans this (cat_le18 m hm).2

/-- A table of so many points: the ways of the even numbers below 2 m stand in it, i parts of the next one. -/
def waysL (P m i : Nat) : List Int := (List.range (P + 1)).map fun j => if j % 2 = 0 then (if j / 2 < m then (cat (j / 2) : Int) else if j / 2 = m then (catSum m i : Int) else 0) else 0

theorem waysL_length (P m i : Nat) : (waysL P m i).length = P + 1 := by simp [waysL]

theorem waysL_get (P m i j : Nat) (h : j ≤ P) : (waysL P m i).getD j 0 = if j % 2 = 0 then (if j / 2 < m then (cat (j / 2) : Int) else if j / 2 = m then (catSum m i : Int) else 0) else 0 := by
  unfold waysL
  rw [List.getD_eq_getElem?_getD, List.getElem?_map, List.getElem?_range (by omega)]
  rfl

theorem waysL_set (P m i : Nat) (h : 2 * m ≤ P) : (waysL P m i).set (2 * m) ((catSum m (i + 1) : Nat) : Int) = waysL P m (i + 1) := by
  refine List.ext_getElem? fun j => ?_
  by_cases hj : j ≤ P
  · by_cases e : j = 2 * m
    · subst e
      rw [List.getElem?_set_self (by rw [waysL_length]; omega)]
      unfold waysL
      rw [List.getElem?_map, List.getElem?_range (by omega)]
      simp
    · rw [List.getElem?_set_ne (by omega)]
      unfold waysL
      rw [List.getElem?_map, List.getElem?_map, List.getElem?_range (by omega)]
      simp only [Option.map_some, Option.some.injEq]
      have : j % 2 = 0 → j / 2 ≠ m := by omega
      split
      · rename_i h0; rw [if_neg (this h0), if_neg (this h0)]
      · rfl
  · rw [List.getElem?_eq_none (by rw [List.length_set, waysL_length]; omega), List.getElem?_eq_none (by rw [waysL_length]; omega)]

/-- The row of a number of points is done: the next one. -/
theorem waysL_next (P m : Nat) (hm : m < 19) (h0 : 0 < m) : waysL P m m = waysL P (m + 1) 0 := by
  unfold waysL
  refine List.map_congr_left fun j _ => ?_
  split
  · by_cases h1 : j / 2 < m
    · rw [if_pos h1, if_pos (by omega)]
    · by_cases h2 : j / 2 = m
      · rw [if_neg h1, if_pos h2, if_pos (by omega), catSum_all18 m hm h0, h2]
      · rw [if_neg h1, if_neg h2, if_neg (by omega)]
        split <;> simp [catSum]
  · rfl

theorem waysL_first (P : Nat) : waysL P 1 0 = (List.replicate (P + 1) (0 : Int)).set 0 1 := by
  refine List.ext_getElem? fun j => ?_
  unfold waysL
  by_cases hj : j ≤ P
  · rw [List.getElem?_map, List.getElem?_range (by omega)]
    by_cases e : j = 0
    · subst e
      rw [List.getElem?_set_self (by simp)]
      simp [cat]
    · rw [List.getElem?_set_ne (by omega), List.getElem?_replicate, if_pos (by omega)]
      simp only [Option.map_some, Option.some.injEq]
      split
      · rw [if_neg (by omega)]
        split <;> simp [catSum]
      · rfl
  · rw [List.getElem?_eq_none (by simp; omega), List.getElem?_eq_none (by simp; omega)]

theorem cat_zero_int : ((cat 0 : Nat) : Int) = 1 := rfl

end Go.Proofs.Ytmfbbbnenngehaa
