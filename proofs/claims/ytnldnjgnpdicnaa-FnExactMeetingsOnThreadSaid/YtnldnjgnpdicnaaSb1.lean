/- Stable merging by swaps: lists alone. Nothing of the program. -/
import Derived.Test.YtnldnjgnpdicnaaBA
namespace Go.Proofs.Ytnldnjgnpdicnaa
open Go.RowKit

/-- Two elements exchanged. -/
def sw (xs : List Int) (i j : Nat) : List Int := (xs.set i (xs.getD j 0)).set j (xs.getD i 0)

theorem sw_length (xs : List Int) (i j : Nat) : (sw xs i j).length = xs.length := by simp [sw]

theorem set_midS (P R : List Int) (x y : Int) (i : Nat) (hi : i = P.length) : (P ++ x :: R).set i y = P ++ y :: R := by
  subst hi
  rw [List.set_append_right _ _ (Nat.le_refl _), Nat.sub_self, List.set_cons_zero]

theorem getD_midS (P R : List Int) (x : Int) (i : Nat) (hi : i = P.length) : (P ++ x :: R).getD i 0 = x := by
  subst hi
  simp [List.getD]

/-- The two elements x, y exchanged. -/
theorem sw_mid (P Q R : List Int) (x y : Int) (i j : Nat) (hi : i = P.length) (hj : j = P.length + 1 + Q.length) :
    sw (P ++ x :: Q ++ y :: R) i j = P ++ y :: Q ++ x :: R := by
  have g1 : (P ++ x :: Q ++ y :: R).getD j 0 = y := getD_midS (P ++ x :: Q) R y j (by simp; omega)
  have g2 : (P ++ x :: Q ++ y :: R).getD i 0 = x := by rw [List.append_assoc, List.cons_append]; exact getD_midS P _ x i hi
  unfold sw
  rw [g1, g2]
  have s1 : (P ++ x :: Q ++ y :: R).set i y = P ++ y :: Q ++ y :: R := by
    rw [List.append_assoc, List.cons_append, set_midS P _ x y i hi, List.append_assoc, List.cons_append]
  rw [s1]
  exact set_midS (P ++ y :: Q) R y x j (by simp; omega)

theorem sw_comm (P Q R : List Int) (x y : Int) (i j : Nat) (hi : i = P.length) (hj : j = P.length + 1 + Q.length) :
    sw (P ++ x :: Q ++ y :: R) j i = P ++ y :: Q ++ x :: R := by
  have g1 : (P ++ x :: Q ++ y :: R).getD j 0 = y := getD_midS (P ++ x :: Q) R y j (by simp; omega)
  have g2 : (P ++ x :: Q ++ y :: R).getD i 0 = x := by rw [List.append_assoc, List.cons_append]; exact getD_midS P _ x i hi
  unfold sw
  rw [g1, g2, set_midS (P ++ x :: Q) R y x j (by simp; omega), List.append_assoc, List.cons_append, set_midS P _ x y i hi, List.append_assoc, List.cons_append]

/-- Two ranges exchanged, element by element. -/
def swp (xs : List Int) (a b : Nat) : Nat → List Int
  | 0 => xs
  | i + 1 => sw (swp xs a b i) (a + i) (b + i)

theorem swp_length (xs : List Int) (a b i : Nat) : (swp xs a b i).length = xs.length := by
  induction i with
  | zero => rfl
  | succ i ih => rw [swp, sw_length, ih]

theorem drop_splitS (A : List Int) (i : Nat) (h : i < A.length) : ∃ x A', A.drop i = x :: A' ∧ A.take (i + 1) = A.take i ++ [x] ∧ A.drop (i + 1) = A' :=
  ⟨A[i], A.drop (i + 1), List.drop_eq_getElem_cons h, List.take_succ_eq_append_getElem h, rfl⟩

theorem swp_part (P A M B S : List Int) (hl : A.length = B.length) (i : Nat) (hi : i ≤ A.length) :
    swp (P ++ A ++ M ++ B ++ S) P.length (P ++ A ++ M).length i = P ++ (B.take i ++ A.drop i) ++ M ++ (A.take i ++ B.drop i) ++ S := by
  induction i with
  | zero => simp [swp]
  | succ i ih =>
    have hia : i < A.length := by omega
    have hib : i < B.length := by omega
    obtain ⟨x, A', a1, a2, a3⟩ := drop_splitS A i hia
    obtain ⟨y, B', b1, b2, b3⟩ := drop_splitS B i hib
    rw [swp, ih (by omega), a1, b1, a2, b2, a3, b3]
    have e1 : P ++ (B.take i ++ x :: A') ++ M ++ (A.take i ++ y :: B') ++ S = (P ++ B.take i) ++ x :: (A' ++ M ++ A.take i) ++ y :: (B' ++ S) := by simp
    have la : A'.length = A.length - (i + 1) := by rw [← a3, List.length_drop]
    rw [e1, sw_mid _ _ _ _ _ _ _ (by simp; omega) (by simp; omega)]
    simp

theorem swp_all (P A M B S : List Int) (hl : A.length = B.length) (xs : List Int) (hx : xs = P ++ A ++ M ++ B ++ S) (a b n : Nat) (ha : a = P.length) (hb : b = P.length + A.length + M.length) (hn : n = A.length) :
    swp xs a b n = P ++ B ++ M ++ A ++ S := by
  subst hx ha hn
  have e : b = (P ++ A ++ M).length := by simp; omega
  rw [e, swp_part P A M B S hl A.length (Nat.le_refl _)]
  have h1 : B.take A.length = B := List.take_of_length_le (by omega)
  have h2 : B.drop A.length = [] := List.drop_of_length_le (by omega)
  simp [h1, h2]

/-- An order of the elements M, and a comparison that tells it of a later element and an earlier one. -/
structure OrdS (M : List Int) (L : Int → Int → Bool) (cf : Int → Int → Int) : Prop where
  trans : ∀ x ∈ M, ∀ y ∈ M, ∀ z ∈ M, L x y = true → L y z = true → L x z = true
  tot : ∀ x ∈ M, ∀ y ∈ M, x ≠ y → L x y = !(L y x)
  agree : ∀ x ∈ M, ∀ y ∈ M, x < y → decide (cf y x < 0) = L y x

def SortS (L : Int → Int → Bool) (xs : List Int) : Prop := xs.Pairwise fun x y => L x y = true

/-- An element goes between two parts. -/
theorem sort_insert {L : Int → Int → Bool} {Z1 Z2 : List Int} {x : Int} (h : SortS L (Z1 ++ Z2)) (h1 : ∀ z ∈ Z1, L z x = true) (h2 : ∀ z ∈ Z2, L x z = true) : SortS L (Z1 ++ x :: Z2) := by
  unfold SortS at *
  obtain ⟨a, b, c⟩ := List.pairwise_append.1 h
  refine List.pairwise_append.2 ⟨a, List.pairwise_cons.2 ⟨h2, b⟩, fun z hz y hy => ?_⟩
  rcases List.mem_cons.1 hy with rfl | hy
  · exact h1 z hz
  · exact c z hz y hy

/-- What lies ahead of an element that lies ahead of x does so too. -/
theorem sort_ahead {M : List Int} {L : Int → Int → Bool} {cf : Int → Int → Int} (O : OrdS M L cf) {Z : List Int} {z x : Int} (hs : SortS L (Z ++ [z])) (hm : ∀ y ∈ Z ++ [z], y ∈ M) (hx : x ∈ M) (h : L z x = true) : ∀ y ∈ Z ++ [z], L y x = true := by
  intro y hy
  rcases List.mem_append.1 hy with hy' | hy'
  · exact O.trans y (hm y hy) z (hm z (by simp)) x hx ((List.pairwise_append.1 hs).2.2 y hy' z (by simp)) h
  · simp at hy'
    rw [hy']; exact h

/-- The two halves of a merge. -/
theorem sort_join {L : Int → Int → Bool} {A B : List Int} (ha : SortS L A) (hb : SortS L B) (h : ∀ x ∈ A, ∀ y ∈ B, L x y = true) : SortS L (A ++ B) := List.pairwise_append.2 ⟨ha, hb, h⟩

theorem sort_unique {M : List Int} {L : Int → Int → Bool} {cf : Int → Int → Int} (O : OrdS M L cf) : ∀ {xs ys : List Int}, xs.Perm ys → SortS L xs → SortS L ys → (∀ x ∈ xs, x ∈ M) → xs.Nodup → xs = ys
  | [], ys, hp, _, _, _, _ => (List.Perm.nil_eq hp)
  | x :: xs, [], hp, _, _, _, _ => by have := hp.length_eq; simp at this
  | x :: xs, y :: ys, hp, hx, hy, hm, hn => by
    have e : x = y := by
      have h1 : x ∈ y :: ys := hp.subset (by simp)
      have h2 : y ∈ x :: xs := hp.symm.subset (by simp)
      rcases List.mem_cons.1 h1 with h | h
      · exact h
      · rcases List.mem_cons.1 h2 with h' | h'
        · exact h'.symm
        · have a := (List.pairwise_cons.1 hy).1 x h
          have b := (List.pairwise_cons.1 hx).1 y h'
          by_cases exy : x = y
          · exact exy
          · have := O.tot x (hm x (by simp)) y (hm y h2) exy
            rw [a, b] at this
            cases this
    subst e
    rw [sort_unique O (hp.cons_inv) (List.pairwise_cons.1 hx).2 (List.pairwise_cons.1 hy).2 (fun z hz => hm z (by simp [hz])) (List.nodup_cons.1 hn).2]
end Go.Proofs.Ytnldnjgnpdicnaa
