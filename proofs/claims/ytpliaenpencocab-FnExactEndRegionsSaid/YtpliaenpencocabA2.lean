/- Pieces of chords: what all chords have together. -/
import Derived.Test.YtpliaenpencocabP4
namespace Go.Proofs.Ytpliaenpencocab

theorem crossP_self (x : Int × Int) : crossP x x = false := by
  unfold crossP crossB
  rw [decide_eq_false_iff_not]
  omega

/-- How many pieces the first k chords of xs have. -/
def piecesL (xs : List (Int × Int)) : Nat → Nat
  | 0 => 0
  | k + 1 => piecesL xs k + (1 + cntC (xs.getD k (0, 0)) xs)

/-- The sum of what chords of ys cross of xs. -/
def crossSum (ys xs : List (Int × Int)) : Nat := (ys.map fun c => cntC c xs).sum

theorem crossSum_snoc (ys xs : List (Int × Int)) (y : Int × Int) : crossSum (ys ++ [y]) xs = crossSum ys xs + cntC y xs := by
  simp [crossSum]

theorem crossSum_more (ys xs : List (Int × Int)) (x : Int × Int) : crossSum ys (xs ++ [x]) = crossSum ys xs + cntC x ys := by
  induction ys with
  | nil => simp [crossSum, cntC]
  | cons y r ih =>
    have e1 : crossSum (y :: r) (xs ++ [x]) = cntC y (xs ++ [x]) + crossSum r (xs ++ [x]) := by simp [crossSum]
    have e2 : crossSum (y :: r) xs = cntC y xs + crossSum r xs := by simp [crossSum]
    have e3 : cntC x (y :: r) = cntC x r + if crossP x y then 1 else 0 := by simp [cntC, List.countP_cons]
    rw [e1, e2, e3, ih, cntC_snoc, crossP_comm y x]
    omega

theorem list_snoc_ind {α : Type} {C : List α → Prop} (h0 : C []) (h1 : ∀ l x, C l → C (l ++ [x])) (l : List α) : C l := by
  have : ∀ n (l : List α), l.length = n → C l := by
    intro n
    induction n with
    | zero => intro l hl; rw [List.length_eq_zero_iff.1 hl]; exact h0
    | succ n ih =>
      intro l hl
      have hne : l ≠ [] := fun e => by rw [e] at hl; simp at hl
      rw [← List.dropLast_concat_getLast hne]
      exact h1 _ _ (ih _ (by simp [hl]))
  exact this _ l rfl

theorem crossSum_pairs (xs : List (Int × Int)) : crossSum xs xs = 2 * pairsC xs := by
  induction xs using list_snoc_ind with
  | h0 => simp [crossSum, pairsC]
  | h1 l x ih =>
    rw [crossSum_snoc, crossSum_more, ih, pairsC_snoc, cntC_snoc, crossP_self]
    simp
    omega

theorem piecesL_sum (xs : List (Int × Int)) (k : Nat) (h : k ≤ xs.length) : piecesL xs k = k + crossSum (xs.take k) xs := by
  induction k with
  | zero => simp [piecesL, crossSum]
  | succ k ih =>
    have e : xs.take (k + 1) = xs.take k ++ [xs.getD k (0, 0)] := by
      rw [List.take_succ_eq_append_getElem (by omega), List.getD_eq_getElem?_getD, List.getElem?_eq_getElem (by omega)]
      rfl
    rw [piecesL, ih (by omega), e, crossSum_snoc]
    omega

theorem piecesL_all (xs : List (Int × Int)) : piecesL xs xs.length = xs.length + 2 * pairsC xs := by
  rw [piecesL_sum xs _ (Nat.le_refl _), List.take_length, crossSum_pairs]

theorem piecesL_le (xs : List (Int × Int)) (k : Nat) : piecesL xs k ≤ k * (1 + xs.length) := by
  induction k with
  | zero => simp [piecesL]
  | succ k ih =>
    have := cntC_le (xs.getD k (0, 0)) xs
    rw [piecesL, Nat.succ_mul]
    omega

theorem piecesL_step (xs : List (Int × Int)) (k : Nat) : piecesL xs (k + 1) = piecesL xs k + (1 + cntC (xs.getD k (0, 0)) xs) := rfl
end Go.Proofs.Ytpliaenpencocab
