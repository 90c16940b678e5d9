/- How often points are in chords: the mathematics. Nothing of the program. -/
namespace Go.Proofs.Ytenkokkhdcjcaab
set_option linter.unusedVariables false

def sumTo : Nat → (Nat → Nat) → Nat
  | 0, _ => 0
  | n + 1, f => sumTo n f + f n

theorem sumTo_congr (n : Nat) (f g : Nat → Nat) (h : ∀ q, q < n → f q = g q) : sumTo n f = sumTo n g := by
  induction n with
  | zero => rfl
  | succ n ih =>
    show sumTo n f + f n = sumTo n g + g n
    rw [ih (fun q hq => h q (by omega)), h n (by omega)]

theorem sumTo_add (n : Nat) (f g : Nat → Nat) : sumTo n (fun q => f q + g q) = sumTo n f + sumTo n g := by
  induction n with
  | zero => rfl
  | succ n ih =>
    show sumTo n (fun q => f q + g q) + (f n + g n) = sumTo n f + f n + (sumTo n g + g n)
    rw [ih]
    omega

theorem sumTo_zero (n : Nat) : sumTo n (fun _ => 0) = 0 := by
  induction n with
  | zero => rfl
  | succ n ih => show sumTo n (fun _ => 0) + 0 = 0; rw [ih]

theorem sumTo_miss (n : Nat) (a : Int) (h : a < 0 ∨ (n : Int) ≤ a) : sumTo n (fun q => if a = (q : Int) then 1 else 0) = 0 := by
  rw [sumTo_congr n _ (fun _ => 0) (fun q hq => if_neg (by omega)), sumTo_zero]

theorem sumTo_one (n : Nat) (a : Int) (h0 : 0 ≤ a) (h1 : a < n) : sumTo n (fun q => if a = (q : Int) then 1 else 0) = 1 := by
  induction n with
  | zero => omega
  | succ n ih =>
    show sumTo n (fun q => if a = (q : Int) then 1 else 0) + (if a = (n : Int) then 1 else 0) = 1
    by_cases e : a = (n : Int)
    · rw [sumTo_miss n a (by omega), if_pos e]
    · rw [ih (by omega), if_neg e]

theorem sum_count (p : Nat) (E : List Int) (h : ∀ a ∈ E, 0 ≤ a ∧ a < p) : sumTo p (fun q => E.count (q : Int)) = E.length := by
  induction E with
  | nil => rw [sumTo_congr p _ (fun _ => 0) (fun q _ => by simp), sumTo_zero]; rfl
  | cons a r ih =>
    have ha := h a (by simp)
    rw [sumTo_congr p _ (fun q => r.count (q : Int) + (if a = (q : Int) then 1 else 0)) (fun q _ => by rw [List.count_cons]; simp), sumTo_add, ih (fun b hb => h b (by simp [hb])), sumTo_one p a ha.1 ha.2, List.length_cons]

/-- How many different points. -/
def diffs (p : Nat) (E : List Int) : Nat := sumTo p (fun q => if (q : Int) ∈ E then 1 else 0)

theorem diffs_nil (p : Nat) : diffs p [] = 0 := by
  unfold diffs
  rw [sumTo_congr p _ (fun _ => 0) (fun q _ => by simp), sumTo_zero]

theorem diffs_snoc (p : Nat) (E : List Int) (a : Int) (h0 : 0 ≤ a) (h1 : a < p) : diffs p (E ++ [a]) = diffs p E + if a ∈ E then 0 else 1 := by
  unfold diffs
  by_cases e : a ∈ E
  · rw [if_pos e]
    refine sumTo_congr p _ _ fun q _ => ?_
    by_cases hq : (q : Int) ∈ E
    · simp [hq]
    · have : ¬ ((q : Int) = a) := fun he => hq (he ▸ e)
      simp [hq, this]
  · have hs := sumTo_add p (fun q => if (q : Int) ∈ E then 1 else 0) (fun q => if a = (q : Int) then 1 else 0)
    rw [sumTo_one p a h0 h1] at hs
    rw [if_neg e, ← hs]
    refine sumTo_congr p _ _ fun q _ => ?_
    by_cases hq : (q : Int) ∈ E
    · have : ¬ (a = (q : Int)) := fun he => e (he ▸ hq)
      simp [hq, this]
    · by_cases ha : a = (q : Int)
      · simp [hq, ha]
      · have : ¬ ((q : Int) = a) := fun he => ha he.symm
        simp [hq, ha, this]

theorem sum_le (n : Nat) (f : Nat → Nat) (h : ∀ q, q < n → f q ≤ 1) : sumTo n f ≤ n := by
  induction n with
  | zero => exact Nat.le_refl _
  | succ n ih =>
    have h1 := ih fun q hq => h q (by omega)
    have h2 := h n (by omega)
    show sumTo n f + f n ≤ n + 1
    omega

theorem le_all (n : Nat) (f : Nat → Nat) (h : ∀ q, q < n → f q ≤ 1) (hs : sumTo n f = n) : ∀ q, q < n → f q = 1 := by
  induction n with
  | zero => intro q hq; omega
  | succ n ih =>
    have h1 := sum_le n f fun q hq => h q (by omega)
    have h2 := h n (by omega)
    have h3 : sumTo n f + f n = n + 1 := hs
    intro q hq
    by_cases e : q = n
    · rw [e]; omega
    · exact ih (fun q hq => h q (by omega)) (by omega) q (by omega)

theorem sum_ge (n : Nat) (f : Nat → Nat) (h : ∀ q, q < n → 1 ≤ f q) : n ≤ sumTo n f := by
  induction n with
  | zero => exact Nat.le_refl _
  | succ n ih =>
    have h1 := ih fun q hq => h q (by omega)
    have h2 := h n (by omega)
    show n + 1 ≤ sumTo n f + f n
    omega

theorem ge_all (n : Nat) (f : Nat → Nat) (h : ∀ q, q < n → 1 ≤ f q) (hs : sumTo n f = n) : ∀ q, q < n → f q = 1 := by
  induction n with
  | zero => intro q hq; omega
  | succ n ih =>
    have h1 := sum_ge n f fun q hq => h q (by omega)
    have h2 := h n (by omega)
    have h3 : sumTo n f + f n = n + 1 := hs
    intro q hq
    by_cases e : q = n
    · rw [e]; omega
    · exact ih (fun q hq => h q (by omega)) (by omega) q (by omega)

theorem sum_const_one (n : Nat) : sumTo n (fun _ => 1) = n := by
  induction n with
  | zero => rfl
  | succ n ih => show sumTo n (fun _ => 1) + 1 = n + 1; rw [ih]

/-- Each point is told just once. -/
def onceAll (p : Nat) (E : List Int) : Bool := decide (∀ q, q < p → E.count (q : Int) = 1)

theorem onceAll_iff (p : Nat) (E : List Int) (h : ∀ a ∈ E, 0 ≤ a ∧ a < p) : onceAll p E = decide (diffs p E = p ∧ E.length = p) := by
  unfold onceAll
  rw [decide_eq_decide]
  constructor
  · intro hc
    refine ⟨?_, ?_⟩
    · unfold diffs
      rw [sumTo_congr p _ (fun _ => 1) (fun q hq => if_pos (List.count_pos_iff.1 (by rw [hc q hq]; omega))), sum_const_one]
    · rw [← sum_count p E h, sumTo_congr p _ (fun _ => 1) hc, sum_const_one]
  · rintro ⟨h1, h2⟩
    have h3 := le_all p _ (fun q _ => by split <;> omega) h1
    refine ge_all p _ (fun q hq => ?_) ((sum_count p E h).trans h2)
    have := h3 q hq
    split at this
    · exact List.count_pos_iff.2 ‹_›
    · omega

/-- How often each point is told. -/
def timesL (p : Nat) (E : List Int) : List Int := (List.range p).map fun (q : Nat) => ((E.count (q : Int) : Nat) : Int)

theorem timesL_length (p : Nat) (E : List Int) : (timesL p E).length = p := by simp [timesL]

theorem timesL_nil (p : Nat) : timesL p [] = List.replicate p 0 := by
  unfold timesL
  refine List.ext_getElem (by simp) fun i h1 h2 => by simp

theorem timesL_get (p : Nat) (E : List Int) (q : Nat) (h : q < p) : (timesL p E).getD q 0 = ((E.count (q : Int) : Nat) : Int) := by
  simp [timesL, List.getD, h]

theorem timesL_set (p : Nat) (E : List Int) (a : Nat) (h : a < p) : (timesL p E).set a (((E.count (a : Int) : Nat) : Int) + 1) = timesL p (E ++ [(a : Int)]) := by
  refine List.ext_getElem (by simp [timesL]) fun i h1 h2 => ?_
  simp only [timesL, List.length_set, List.length_map, List.length_range] at h1
  rw [List.getElem_set]
  by_cases e : a = i
  · subst e
    simp [timesL, List.count_append]
  · have e' : ¬ ((a : Int) = (i : Int)) := by omega
    simp [timesL, List.count_append, e, List.count_cons, e']

theorem count_le (p : Nat) (E : List Int) (a : Int) : E.count a ≤ E.length := List.count_le_length

end Go.Proofs.Ytenkokkhdcjcaab
