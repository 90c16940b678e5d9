/- Hidden threads. Nothing of the program. -/
import Derived.Test.YtngonpiiehmlaabFN
namespace Go.Proofs.Ytngonpiiehmlaab
open Go.RowKit
set_option linter.unusedVariables false

/-- The threads but one. -/
def restT (xs : List (Int × Int)) (k : Nat) : List (Int × Int) := xs.take k ++ xs.drop (k + 1)

theorem restT_length (xs : List (Int × Int)) (k : Nat) (h : k < xs.length) : (restT xs k).length = xs.length - 1 := by
  simp [restT]; omega

theorem restT_get (xs : List (Int × Int)) (k j : Nat) (h : k < xs.length) : (restT xs k).getD j (0, 0) = xs.getD (if j < k then j else j + 1) (0, 0) := by
  unfold restT
  by_cases hj : j < k
  · rw [if_pos hj, List.getD, List.getElem?_append_left (by simp; omega), List.getElem?_take, if_pos hj, List.getD]
  · rw [if_neg hj, List.getD, List.getElem?_append_right (by simp; omega), List.getElem?_drop, List.getD]
    congr 2
    simp
    omega

theorem less_trans3 {x y z : Int × Int} (h : lessC x y = true) (g : lessC y z = true) : lessC x z = true := by
  rw [lessC, decide_eq_true_eq] at *
  omega

theorem goodT_rest {xs : List (Int × Int)} (hg : goodT xs) (k : Nat) (hk : k < xs.length) (h2 : xs.length ≠ 1) : goodT (restT xs k) := by
  have hl := restT_length xs k hk
  refine ⟨by have := hg.1; omega, fun j hj => ?_⟩
  unfold okT
  rw [restT_get xs k j hk]
  refine ⟨?_, fun h0 => ?_⟩
  · split
    · exact hg.at _ (by omega)
    · exact hg.at _ (by omega)
  · rw [restT_get xs k (j - 1) hk]
    by_cases h : j < k
    · rw [if_pos h, if_pos (by omega)]
      exact (hg.2 j (by omega)).2 h0
    · rw [if_neg h]
      have e1 := (hg.2 (j + 1) (by omega)).2 (by omega)
      rw [Nat.add_sub_cancel] at e1
      by_cases e : j - 1 < k
      · rw [if_pos e]
        have e2 := (hg.2 j (by omega)).2 h0
        exact less_trans3 e2 e1
      · rw [if_neg e, show j - 1 + 1 = j by omega]
        exact e1

theorem colT_append (x : Int) : ∀ (l r : List (Int × Int)), colT x (l ++ r) = max (colT x l) (colT x r)
  | [], r => by
    show colT x r = max 0 (colT x r)
    omega
  | p :: l, r => by
    show max (col1 x p) (colT x (l ++ r)) = max (max (col1 x p) (colT x l)) (colT x r)
    rw [colT_append x l r]
    omega

theorem colT_rest (x : Int) (xs : List (Int × Int)) (k : Nat) (h : k < xs.length) : colT x xs = max (col1 x (xs.getD k (0, 0))) (colT x (restT xs k)) := by
  have e : xs = xs.take k ++ (xs.getD k (0, 0) :: xs.drop (k + 1)) := by
    rw [List.getD, List.getElem?_eq_getElem h, Option.getD_some, ← List.drop_eq_getElem_cons h, List.take_append_drop]
  have h1 : colT x xs = colT x (xs.take k ++ (xs.getD k (0, 0) :: xs.drop (k + 1))) := by rw [← e]
  rw [h1, restT, colT_append, colT_append]
  show max _ (max _ _) = _
  omega

/-- Thread k is hidden. -/
def hidT (xs : List (Int × Int)) (k : Nat) : Bool := decide (colL (restT xs k) 101 = colL xs 101)

theorem colL_eq (xs ys : List (Int × Int)) : colL xs 101 = colL ys 101 ↔ ∀ t : Nat, t < 101 → colT (t : Int) xs = colT (t : Int) ys := by
  constructor
  · intro h t ht
    have h1 := colL_get xs 101 t ht
    rw [h, colL_get ys 101 t ht] at h1
    omega
  · intro h
    unfold colL
    congr 1
    exact List.map_congr_left fun t ht => by rw [h t (List.mem_range.1 ht)]

theorem hidT_iff {xs : List (Int × Int)} (hg : goodT xs) (k : Nat) (hk : k < xs.length) (a b : Int) (hab : xs.getD k (0, 0) = (a, b)) :
    hidT xs k = true ↔ ∀ t : Nat, (t : Int) ≤ a → hgt a b t / a.toNat < colT (t : Int) (restT xs k) := by
  have hT := hg.at k hk
  rw [hab] at hT
  have ha := hT.1
  unfold hidT
  rw [decide_eq_true_eq, colL_eq]
  constructor
  · intro h t ht
    have h1 := h t (by simp only at ha; omega)
    rw [colT_rest (t : Int) xs k hk, hab] at h1
    unfold col1 at h1
    simp only at h1
    rw [if_pos ht] at h1
    omega
  · intro h t ht
    rw [colT_rest (t : Int) xs k hk, hab]
    unfold col1
    simp only
    by_cases hta : (t : Int) ≤ a
    · rw [if_pos hta]
      have := h t hta
      omega
    · rw [if_neg hta]
      omega

theorem any_rest {xs : List (Int × Int)} (hg : goodT xs) (k : Nat) (hk : k < xs.length) (h2 : xs.length ≠ 1) (t y : Nat) : (restT xs k).any (underP (t : Int) (y : Int)) = decide (y < colT (t : Int) (restT xs k)) := by
  rw [any_colT _ _ (by omega) (by omega) _ (goodT_rest hg k hk h2).mem, decide_eq_decide]
  omega

end Go.Proofs.Ytngonpiiehmlaab
