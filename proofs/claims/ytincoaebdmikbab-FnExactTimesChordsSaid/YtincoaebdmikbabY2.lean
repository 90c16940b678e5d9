/- Chords told anew: the mathematics. -/
import Derived.Test.YtincoaebdmikbabY1
import Derived.Test.YtincoaebdmikbabZ1
import Derived.Test.YtincoaebdmikbabP4
import Derived.Test.YtincoaebdmikbabK4
import Derived.Test.YtincoaebdmikbabK3
import Derived.Test.YtincoaebdmikbabW2
namespace Go.Proofs.Ytincoaebdmikbab
open Go.RowKit
set_option linter.unusedVariables false

/-- Chords of p points in order, at most 60. -/
def goodW (p : Int) (xs : List (Int × Int)) : Prop := (3 ≤ p ∧ p ≤ 60) ∧ xs.length ≤ 60 ∧ ∀ k, k < xs.length → okAt p xs k

theorem good_wide {p : Int} {xs : List (Int × Int)} (h : goodC p xs) : goodW p xs := ⟨h.1, by have := h.2.1; omega, h.2.2⟩

theorem good_ord {p : Int} {xs : List (Int × Int)} (hg : goodW p xs) (i j : Nat) (hij : i < j) (hj : j < xs.length) : lessC (xs.getD i (0, 0)) (xs.getD j (0, 0)) = true := by
  induction j with
  | zero => omega
  | succ j ih =>
    have h1 := (hg.2.2 (j + 1) hj).2 (by omega)
    rw [show j + 1 - 1 = j by omega] at h1
    by_cases e : i = j
    · rw [e]; exact h1
    · exact lessC_trans (ih (by omega) (by omega)) h1

theorem good_sorted {p : Int} {xs : List (Int × Int)} (hg : goodW p xs) : SortedC xs := by
  unfold SortedC
  rw [List.pairwise_iff_getElem]
  intro i j hi hj hij
  have := good_ord hg i j hij hj
  rw [List.getD_eq_getElem?_getD, List.getD_eq_getElem?_getD, List.getElem?_eq_getElem hi, List.getElem?_eq_getElem hj] at this
  exact this

theorem sorted_nodup {xs : List (Int × Int)} (h : SortedC xs) : xs.Nodup := by
  refine h.imp ?_
  intro a b hab e
  exact lessC_irrefl a (by rw [← e] at hab; exact hab)

/-- A chord with each point told anew. -/
def retC (f : Int → Int) (c : Int × Int) : Int × Int := (min (f c.1) (f c.2), max (f c.1) (f c.2))

theorem retC_inj (p : Int) (f : Int → Int) (hf : ∀ a b, 0 ≤ a → a < p → 0 ≤ b → b < p → f a = f b → a = b) (c d : Int × Int) (hc : 0 ≤ c.1 ∧ c.1 < c.2 ∧ c.2 < p) (hd : 0 ≤ d.1 ∧ d.1 < d.2 ∧ d.2 < p) (h : retC f c = retC f d) : c = d := by
  unfold retC at h
  rw [Prod.mk.injEq] at h
  obtain ⟨h1, h2⟩ := h
  have hh : (f c.1 = f d.1 ∧ f c.2 = f d.2) ∨ (f c.1 = f d.2 ∧ f c.2 = f d.1) := by omega
  rcases hh with ⟨e1, e2⟩ | ⟨e1, e2⟩
  · exact Prod.ext (hf _ _ (by omega) (by omega) (by omega) (by omega) e1) (hf _ _ (by omega) (by omega) (by omega) (by omega) e2)
  · have a1 := hf _ _ (by omega) (by omega) (by omega) (by omega) e1
    have a2 := hf _ _ (by omega) (by omega) (by omega) (by omega) e2
    omega

theorem good_mem {p : Int} {xs : List (Int × Int)} (hg : goodW p xs) (c : Int × Int) (hc : c ∈ xs) : 0 ≤ c.1 ∧ c.1 < c.2 ∧ c.2 < p := by
  obtain ⟨k, hk, rfl⟩ := List.getElem_of_mem hc
  have := (hg.2.2 k hk).1
  rw [List.getD_eq_getElem?_getD, List.getElem?_eq_getElem hk] at this
  exact this

theorem ret_nodup {p : Int} {xs : List (Int × Int)} (hg : goodW p xs) (f : Int → Int) (hf : ∀ a b, 0 ≤ a → a < p → 0 ≤ b → b < p → f a = f b → a = b) : (xs.map (retC f)).Nodup := by
  unfold List.Nodup
  rw [List.pairwise_map]
  refine List.Pairwise.imp_of_mem ?_ (sorted_nodup (good_sorted hg))
  intro a b ha hb hne e
  exact hne (retC_inj p f hf a b (good_mem hg a ha) (good_mem hg b hb) e)

/-- The model puts them in one after the other, the program sorts them. -/
theorem ret_same {p : Int} {xs : List (Int × Int)} (hg : goodW p xs) (f : Int → Int) (hf : ∀ a b, 0 ≤ a → a < p → 0 ≤ b → b < p → f a = f b → a = b) : sortL (xs.map (retC f)) = putAll [] (xs.map (retC f)) := by
  refine SortedC.ext (sortL_sorted _ (ret_nodup hg f hf)) (putAll_sorted _ _ sortedC_nil) fun x => ?_
  rw [mem_sortL, mem_putAll]
  simp

theorem same_emod (p x y : Int) (hp : 0 < p) (h : x % p = y % p) (h1 : x - y < p) (h2 : y - x < p) : x = y := by
  have e1 := Int.emod_add_mul_ediv x p
  have e2 := Int.emod_add_mul_ediv y p
  obtain ⟨q1, hq1⟩ : ∃ q, q = x / p := ⟨_, rfl⟩
  obtain ⟨q2, hq2⟩ : ∃ q, q = y / p := ⟨_, rfl⟩
  rw [← hq1] at e1
  rw [← hq2] at e2
  rcases Int.lt_trichotomy q1 q2 with g | g | g
  · have := Int.mul_le_mul_of_nonneg_left (show q1 + 1 ≤ q2 by omega) (show 0 ≤ p by omega)
    rw [Int.mul_add, Int.mul_one] at this
    omega
  · rw [g] at e1
    omega
  · have := Int.mul_le_mul_of_nonneg_left (show q2 + 1 ≤ q1 by omega) (show 0 ≤ p by omega)
    rw [Int.mul_add, Int.mul_one] at this
    omega

theorem turn_inj (p t : Int) (hp : 0 < p) (a b : Int) (h1 : 0 ≤ a) (h2 : a < p) (h3 : 0 ≤ b) (h4 : b < p) (h : (a + t) % p = (b + t) % p) : a = b := by
  have := same_emod p _ _ hp h (by omega) (by omega)
  omega

theorem mirror_inj (p : Int) (hp : 0 < p) (a b : Int) (h1 : 0 ≤ a) (h2 : a < p) (h3 : 0 ≤ b) (h4 : b < p) (h : (p - a) % p = (p - b) % p) : a = b := by
  have := same_emod p _ _ hp h (by omega) (by omega)
  omega

end Go.Proofs.Ytincoaebdmikbab
