/- Gears: the mathematics. Nothing of the program. -/
import Derived.Test.YtnnhjnogebicbabB4
namespace Go.Proofs.Ytnnhjnogebicbab
open Go.RowKit

/-- At most n different numbers are less than n. -/
theorem nodup_less (n : Nat) : ∀ (l : List Nat), l.Nodup → (∀ x ∈ l, x < n) → l.length ≤ n := by
  induction n with
  | zero =>
    intro l _ h
    cases l with
    | nil => simp
    | cons a l => exact absurd (h a (by simp)) (by omega)
  | succ n ih =>
    intro l hl h
    have h1 := ih (l.erase n) (hl.erase n) (fun x hx => by
      have := (List.Nodup.mem_erase_iff hl).1 hx
      have := h x this.2
      omega)
    rw [List.length_erase] at h1
    split at h1 <;> omega

/-- The first of so many steps at which two teeth meet. -/
def meetT (r k a b : Nat) : Option Nat := (List.range k).find? fun i => (a + i * r) % k == b

theorem meetT_some {r k a b i : Nat} (h : meetT r k a b = some i) : i < k ∧ (a + i * r) % k = b ∧ ∀ j, j < i → (a + j * r) % k ≠ b := by
  unfold meetT at h
  rw [List.find?_range_eq_some] at h
  obtain ⟨h1, h2, h3⟩ := h
  refine ⟨List.mem_range.1 h2, beq_iff_eq.1 h1, fun j hj e => ?_⟩
  have := h3 j hj
  simp [e] at this

theorem meetT_none {r k a b : Nat} (h : meetT r k a b = none) (j : Nat) (hj : j < k) : (a + j * r) % k ≠ b := by
  unfold meetT at h
  rw [List.find?_range_eq_none] at h
  intro e
  have := h j hj
  simp [e] at this

theorem find_at {c : Nat → Bool} {n j : Nat} (hj : j < n) (h : c j = true) (hl : ∀ i, i < j → c i = false) : (List.range n).find? c = some j := by
  rw [List.find?_range_eq_some]
  exact ⟨h, List.mem_range.2 hj, fun i hi => by rw [hl i hi]; rfl⟩

theorem find_none {c : Nat → Bool} {n : Nat} (hl : ∀ i, i < n → c i = false) : (List.range n).find? c = none := by
  rw [List.find?_range_eq_none]
  exact fun i hi => by rw [hl i hi]; rfl

/-- The step told: the i-th one from fs on. -/
def stepV (fs d : Nat) : Option Nat → Int
  | some i => ((fs + i * d : Nat) : Int)
  | none => 0

/-- .. by the model, which tells -1 if there is none. -/
def stepM (fs d : Nat) : Option Nat → Int
  | some i => ((fs + i * d : Nat) : Int)
  | none => -1

/-- Steps less than the least common multiple are less than the product. -/
theorem step_lt (r k a j : Nat) (ha : a < r) (hj : j < k) : a + j * r < r * k := by
  have h : (j + 1) * r ≤ k * r := Nat.mul_le_mul_right r hj
  rw [Nat.succ_mul, Nat.mul_comm k r] at h
  omega

theorem step_ge (r k a : Nat) : r * k ≤ a + k * r := by rw [Nat.mul_comm]; omega

theorem mul_bd300 {a b : Nat} (ha : a ≤ 300) (hb : b ≤ 300) : a * b ≤ 90000 := Nat.le_trans (Nat.mul_le_mul ha hb) (by omega)

/-- The cusps: the i-th one that the wheel comes to. -/
def cuspL (r k n : Nat) : List Int := (List.range n).map fun (i : Nat) => ((i * k % r : Nat) : Int)

theorem cuspL_length (r k n : Nat) : (cuspL r k n).length = n := by simp [cuspL]
theorem cuspL_succ (r k n : Nat) : cuspL r k n ++ [((n * k % r : Nat) : Int)] = cuspL r k (n + 1) := by simp [cuspL, List.range_succ]

theorem cuspL_get (r k n i : Nat) (h : i < n) : (cuspL r k n).getD i 0 = ((i * k % r : Nat) : Int) := by
  simp [cuspL, List.getD, List.getElem?_map, List.getElem?_range h]

theorem cusp_mod (g a b i : Nat) : i * (g * b) % (g * a) = g * (i * b % a) := by
  rw [show i * (g * b) = g * (i * b) by rw [← Nat.mul_assoc, Nat.mul_comm i g, Nat.mul_assoc], Nat.mul_mod_mul_left]

theorem copr_ne (a b i : Nat) (h : Nat.gcd a b = 1) (h1 : 1 ≤ i) (h2 : i < a) : i * b % a ≠ 0 := by
  intro e
  have d : a ∣ i * b := Nat.dvd_of_mod_eq_zero e
  have c : Nat.Coprime a b := h
  have := Nat.le_of_dvd (by omega) (c.dvd_of_dvd_mul_right d)
  omega

theorem cusp_ne (r k g a b i : Nat) (hr : r = g * a) (hk : k = g * b) (hg : 1 ≤ g) (h : Nat.gcd a b = 1) (h1 : 1 ≤ i) (h2 : i < a) : i * k % r ≠ 0 := by
  subst hr; subst hk
  rw [cusp_mod]
  have := copr_ne a b i h h1 h2
  intro e
  rcases Nat.mul_eq_zero.1 e with e | e <;> omega

theorem cusp_end (r k g a b : Nat) (hr : r = g * a) (hk : k = g * b) : a * k % r = 0 := by
  subst hr; subst hk
  rw [cusp_mod, Nat.mul_comm a b, Nat.mul_mod_left, Nat.mul_zero]

theorem cusp_next (r k i : Nat) : (i * k % r + k) % r = (i + 1) * k % r := by
  rw [Nat.mod_add_mod, Nat.succ_mul]

/-- Each number below a is one of the first a multiples of b. -/
theorem copr_all (a b y : Nat) (h : Nat.gcd a b = 1) (hy : y < a) : ∃ i, i < a ∧ i * b % a = y := by
  refine Classical.byContradiction fun hn => ?_
  have hinj : ((List.range a).map fun i => i * b % a).Nodup := by
    have : (List.range a).Nodup := List.nodup_range
    refine List.pairwise_map.2 (List.Pairwise.imp_of_mem ?_ this)
    intro i j hi hj hij e
    have hi := List.mem_range.1 hi
    have hj := List.mem_range.1 hj
    rcases Nat.lt_or_gt_of_ne hij with hl | hl
    · have d : (j - i) * b % a = 0 := by
        rw [Nat.sub_mul]
        exact Nat.sub_mod_eq_zero_of_mod_eq e.symm
      exact copr_ne a b (j - i) h (by omega) (by omega) d
    · have d : (i - j) * b % a = 0 := by
        rw [Nat.sub_mul]
        exact Nat.sub_mod_eq_zero_of_mod_eq e
      exact copr_ne a b (i - j) h (by omega) (by omega) d
  have h2 : (y :: (List.range a).map fun i => i * b % a).Nodup := by
    refine List.nodup_cons.2 ⟨?_, hinj⟩
    intro hm
    obtain ⟨i, hi, e⟩ := List.mem_map.1 hm
    exact hn ⟨i, List.mem_range.1 hi, e⟩
  have := nodup_less a _ h2 (by
    intro x hx
    rcases List.mem_cons.1 hx with rfl | hx
    · exact hy
    · obtain ⟨i, _, rfl⟩ := List.mem_map.1 hx
      exact Nat.mod_lt _ (by omega))
  simp at this
  omega

/-- Which teeth are among the first n cusps. -/
def marksG (r k n : Nat) : List Bool := (List.range 300).map fun x => (List.range n).any fun i => i * k % r == x

theorem marksG_length (r k n : Nat) : (marksG r k n).length = 300 := by simp [marksG]

theorem marksG_get (r k n x : Nat) (h : x < 300) : (marksG r k n).getD x false = (List.range n).any fun i => i * k % r == x := by
  simp [marksG, List.getD, List.getElem?_map, List.getElem?_range h]

theorem marksG_zero (r k : Nat) : marksG r k 0 = List.replicate 300 false := by
  unfold marksG
  rw [List.eq_replicate_iff]
  refine ⟨by simp, fun b hb => ?_⟩
  obtain ⟨x, _, rfl⟩ := List.mem_map.1 hb
  rfl

theorem marksG_set (r k n : Nat) : (marksG r k n).set (n * k % r) true = marksG r k (n + 1) := by
  apply List.ext_getElem (by simp [marksG])
  intro x h1 h2
  rw [List.getElem_set]
  simp only [marksG, List.getElem_map, List.getElem_range]
  rw [List.range_succ, List.any_append, List.any_cons, List.any_nil, Bool.or_false]
  by_cases e : n * k % r = x
  · simp [e]
  · simp [e]

/-- The cusps are all multiples of what divides both. -/
theorem marksG_all (r k g a b x : Nat) (hr : r = g * a) (hk : k = g * b) (hg : 1 ≤ g) (h : Nat.gcd a b = 1) (ha : 1 ≤ a) (hx : x < 300) :
    (marksG r k a).getD x false = true ↔ x < r ∧ g ∣ x := by
  subst hr; subst hk
  rw [marksG_get _ _ _ _ hx, List.any_eq_true]
  constructor
  · rintro ⟨i, _, e⟩
    rw [beq_iff_eq, cusp_mod] at e
    subst e
    exact ⟨Nat.mul_lt_mul_of_pos_left (Nat.mod_lt _ ha) hg, Nat.dvd_mul_right _ _⟩
  · rintro ⟨hl, y, rfl⟩
    obtain ⟨i, hi, e⟩ := copr_all a b y h (Nat.lt_of_mul_lt_mul_left hl)
    exact ⟨i, List.mem_range.2 hi, by rw [beq_iff_eq, cusp_mod, e]⟩

theorem marksG_same (r k g a b k' g' a' b' : Nat) (hr : r = g * a) (hk : k = g * b) (hg : 1 ≤ g) (h : Nat.gcd a b = 1) (hr' : r = g' * a') (hk' : k' = g' * b') (hg' : 1 ≤ g') (h' : Nat.gcd a' b' = 1)
    (ha : 2 ≤ a) (ha' : 2 ≤ a') (hl : r ≤ 300) : decide (marksG r k a = marksG r k' a') = decide (g = g') := by
  rw [decide_eq_decide]
  have lt1 : g < r := by rw [hr]; exact Nat.lt_of_lt_of_le (show g < g * 2 by omega) (Nat.mul_le_mul_left g ha)
  have lt2 : g' < r := by rw [hr']; exact Nat.lt_of_lt_of_le (show g' < g' * 2 by omega) (Nat.mul_le_mul_left g' ha')
  constructor
  · intro e
    have d1 : g' ∣ g := by
      have := (marksG_all r k g a b g hr hk hg h (by omega) (by omega)).2 ⟨lt1, Nat.dvd_refl g⟩
      rw [e] at this
      exact ((marksG_all r k' g' a' b' g hr' hk' hg' h' (by omega) (by omega)).1 this).2
    have d2 : g ∣ g' := by
      have := (marksG_all r k' g' a' b' g' hr' hk' hg' h' (by omega) (by omega)).2 ⟨lt2, Nat.dvd_refl g'⟩
      rw [← e] at this
      exact ((marksG_all r k g a b g' hr hk hg h (by omega) (by omega)).1 this).2
    exact Nat.dvd_antisymm d2 d1
  · intro e
    subst e
    apply List.ext_getElem (by simp [marksG_length])
    intro x h1 h2
    rw [marksG_length] at h1
    have e1 := marksG_all r k g a b x hr hk hg h (by omega) h1
    have e2 := marksG_all r k' g a' b' x hr' hk' hg' h' (by omega) h1
    have e3 : (marksG r k a).getD x false = (marksG r k' a').getD x false := by
      rw [Bool.eq_iff_iff, e1, e2]
    simpa [List.getD, List.getElem?_eq_getElem, marksG_length, h1] using e3

end Go.Proofs.Ytnnhjnogebicbab
