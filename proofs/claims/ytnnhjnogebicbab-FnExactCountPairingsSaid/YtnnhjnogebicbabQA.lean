/- Pairings by crossings: both ways of counting as functions, and that they tell the same. Nothing of the program. -/
import Derived.Test.YtnnhjnogebicbabP4
namespace Go.Proofs.Ytnnhjnogebicbab

/-- f 0 + .. + f (n - 1). -/
def sumN (f : Nat → Nat) : Nat → Nat
  | 0 => 0
  | n + 1 => sumN f n + f n

theorem sumN_le (f : Nat → Nat) (m : Nat) : ∀ n, (∀ i, i < n → f i ≤ m) → sumN f n ≤ n * m
  | 0, _ => by simp [sumN]
  | n + 1, h => by
    have h1 := sumN_le f m n fun i hi => h i (by omega)
    have h2 := h n (by omega)
    rw [sumN, Nat.succ_mul]
    omega

theorem sumN_congr (f g : Nat → Nat) : ∀ n, (∀ i, i < n → f i = g i) → sumN f n = sumN g n
  | 0, _ => rfl
  | n + 1, h => by rw [sumN, sumN, sumN_congr f g n fun i hi => h i (by omega), h n (by omega)]

theorem sumN_mono (f : Nat → Nat) : ∀ (n m : Nat), n ≤ m → sumN f n ≤ sumN f m := by
  intro n m h
  induction m with
  | zero => rw [show n = 0 by omega]; exact Nat.le_refl _
  | succ m ih =>
    rcases Nat.lt_or_ge n (m + 1) with h1 | h1
    · exact Nat.le_trans (ih (by omega)) (Nat.le_add_right _ _)
    · rw [show n = m + 1 by omega]; exact Nat.le_refl _

/-- In how many ways the last p points end a pairing with c more crossings, if o chords lead to them. -/
def endT : Nat → Nat → Int → Nat
  | 0, o, c => if c < 0 ∨ 0 < o ∨ 0 < c then 0 else 1
  | p + 1, o, c => if c < 0 ∨ p + 1 < o then 0 else endT p (o + 1) c + sumN (fun b => endT p (o - 1) (c - (b : Int))) o

theorem endT_le : ∀ (p o : Nat) (c : Int), p ≤ 12 → endT p o c ≤ 14 ^ p
  | 0, o, c, _ => by
    unfold endT
    split <;> simp
  | p + 1, o, c, h => by
    unfold endT
    split
    · exact Nat.zero_le _
    · rename_i hn
      have h1 := endT_le p (o + 1) c (by omega)
      have h2 := sumN_le (fun b => endT p (o - 1) (c - (b : Int))) (14 ^ p) o fun b _ => endT_le p _ _ (by omega)
      have h3 : o * 14 ^ p ≤ 13 * 14 ^ p := Nat.mul_le_mul_right _ (by omega)
      rw [Nat.pow_succ]
      omega

theorem endT_bd (p o : Nat) (c : Int) (h : p ≤ 12) : endT p o c ≤ 56693912375296 :=
  Nat.le_trans (endT_le p o c h) (Nat.le_trans (Nat.pow_le_pow_right (by omega) h) (by decide))

/-- The first point that is in no chord, or n. -/
def firstF (U : List Bool) (n : Nat) : Nat := ((List.range n).find? fun i => !U.getD i false).getD n

/-- How many points are in no chord. -/
def freeF (U : List Bool) : Nat := U.countP (fun b => !b)

theorem firstF_le (U : List Bool) (n : Nat) : firstF U n ≤ n := by
  unfold firstF
  cases h : (List.range n).find? fun i => !U.getD i false with
  | none => simp
  | some i =>
    have := List.mem_range.1 (List.mem_of_find?_eq_some h)
    simp; omega

theorem firstF_is {U : List Bool} {n i : Nat} (hi : i ≤ n) (hl : ∀ j, j < i → U.getD j false = true) (h : i < n → U.getD i false = false) : firstF U n = i := by
  unfold firstF
  rcases Nat.lt_or_ge i n with h1 | h1
  · have : (List.range n).find? (fun i => !U.getD i false) = some i := by
      rw [List.find?_range_eq_some]
      exact ⟨by rw [h h1]; rfl, List.mem_range.2 h1, fun j hj => by rw [hl j hj]; rfl⟩
    rw [this]; rfl
  · obtain rfl : i = n := by omega
    have : (List.range i).find? (fun i => !U.getD i false) = none := by
      rw [List.find?_range_eq_none]
      exact fun j hj => by rw [hl j hj]; rfl
    rw [this]; rfl

theorem freeF_set {U : List Bool} : ∀ {j : Nat}, j < U.length → U.getD j false = false → freeF (U.set j true) + 1 = freeF U := by
  induction U with
  | nil => intro j h; simp at h
  | cons b U ih =>
    intro j h hj
    cases j with
    | zero =>
      have hb : b = false := by simpa using hj
      subst hb
      simp [freeF]
    | succ j =>
      have := ih (j := j) (by simpa using h) (by simpa using hj)
      simp only [freeF, List.set_cons_succ, List.countP_cons] at this ⊢
      omega

/-- The pairings that go on with chords L, by crossings c. -/
def cdT (n : Nat) (c : Int) : Nat → List Bool → List (Int × Int) → Nat
  | 0, _, L => if (pairsC L : Int) = c then 1 else 0
  | f + 1, U, L =>
    let i := firstF U n
    if i = n then (if (pairsC L : Int) = c then 1 else 0)
    else sumN (fun j => if i < j ∧ U.getD j false = false then cdT n c f ((U.set i true).set j true) (L ++ [((i : Int), (j : Int))]) else 0) n

theorem cdT_le (n : Nat) (c : Int) : ∀ (f : Nat) (U : List Bool) (L : List (Int × Int)), cdT n c f U L ≤ (n + 1) ^ f
  | 0, U, L => by unfold cdT; split <;> simp
  | f + 1, U, L => by
    unfold cdT
    have hp : 1 ≤ (n + 1) ^ (f + 1) := Nat.pow_pos (by omega)
    simp only
    split
    · split
      · exact hp
      · exact Nat.zero_le _
    · refine Nat.le_trans (sumN_le _ ((n + 1) ^ f) n fun j _ => ?_) ?_
      · split
        · exact cdT_le n c f _ _
        · exact Nat.zero_le _
      · rw [Nat.pow_succ, Nat.mul_comm]
        exact Nat.mul_le_mul_left _ (by omega)

/-! Both as lists: how many there are with 0, 1, .. crossings. -/
def addL : List Nat → List Nat → List Nat
  | [], ys => ys
  | x :: xs, [] => x :: xs
  | x :: xs, y :: ys => (x + y) :: addL xs ys

theorem addL_get : ∀ (xs ys : List Nat) (c : Nat), (addL xs ys).getD c 0 = xs.getD c 0 + ys.getD c 0
  | [], ys, c => by simp [addL]
  | x :: xs, [], c => by simp [addL]
  | x :: xs, y :: ys, 0 => by simp [addL]
  | x :: xs, y :: ys, c + 1 => by
    have := addL_get xs ys c
    simpa [addL] using this

def shiftL : Nat → List Nat → List Nat
  | 0, xs => xs
  | m + 1, xs => 0 :: shiftL m xs

theorem shiftL_get : ∀ (m : Nat) (xs : List Nat) (c : Nat), (shiftL m xs).getD c 0 = if c < m then 0 else xs.getD (c - m) 0
  | 0, xs, c => by simp [shiftL]
  | m + 1, xs, 0 => by simp [shiftL]
  | m + 1, xs, c + 1 => by
    have := shiftL_get m xs c
    simp only [shiftL, List.getD_cons_succ, this, Nat.add_sub_add_right]
    by_cases h : c < m
    · rw [if_pos h, if_pos (by omega)]
    · rw [if_neg h, if_neg (by omega)]

def sumL (f : Nat → List Nat) : Nat → List Nat
  | 0 => []
  | n + 1 => addL (sumL f n) (f n)

theorem sumL_get (f : Nat → List Nat) (c : Nat) : ∀ n, (sumL f n).getD c 0 = sumN (fun i => (f i).getD c 0) n
  | 0 => by simp [sumL, sumN]
  | n + 1 => by rw [sumL, addL_get, sumL_get f c n, sumN]

def endL : Nat → Nat → List Nat
  | 0, o => if Nat.blt 0 o then [] else [1]
  | p + 1, o => if Nat.blt (p + 1) o then [] else addL (endL p (o + 1)) (sumL (fun b => shiftL b (endL p (o - 1))) o)

theorem endL_get : ∀ (p o c : Nat), endT p o (c : Int) = (endL p o).getD c 0
  | 0, o, c => by
    unfold endT endL
    by_cases h : 0 < o
    · rw [if_pos (by omega), if_pos (by rw [Nat.blt_eq]; exact h)]; rfl
    · rw [if_neg (show ¬ (Nat.blt 0 o = true) by rw [Nat.blt_eq]; exact h)]
      cases c with
      | zero => rw [if_neg (by omega)]; rfl
      | succ c => rw [if_pos (by omega)]; rfl
  | p + 1, o, c => by
    unfold endT endL
    by_cases h : p + 1 < o
    · rw [if_pos (by omega), if_pos (by rw [Nat.blt_eq]; exact h)]; rfl
    · rw [if_neg (by omega), if_neg (show ¬ (Nat.blt (p + 1) o = true) by rw [Nat.blt_eq]; exact h), addL_get, sumL_get, endL_get p (o + 1) c]
      congr 1
      refine sumN_congr _ _ o fun b _ => ?_
      rw [shiftL_get]
      by_cases hb : c < b
      · rw [if_pos hb]
        cases p with
        | zero => unfold endT; rw [if_pos (by omega)]
        | succ p => unfold endT; rw [if_pos (by omega)]
      · rw [if_neg hb, ← endL_get p (o - 1) (c - b)]
        congr 1
        omega

def crossN (x y : Nat × Nat) : Bool := (Nat.blt x.1 y.1 && Nat.blt y.1 x.2 && Nat.blt x.2 y.2) || (Nat.blt y.1 x.1 && Nat.blt x.1 y.2 && Nat.blt y.2 x.2)

def upP (x : Nat × Nat) : Int × Int := ((x.1 : Int), (x.2 : Int))

theorem crossN_up (x y : Nat × Nat) : crossP (upP x) (upP y) = crossN x y := by
  obtain ⟨a, b⟩ := x
  obtain ⟨c, d⟩ := y
  unfold crossP crossB crossN upP
  rw [Bool.eq_iff_iff, decide_eq_true_iff]
  simp only [Bool.or_eq_true, Bool.and_eq_true, Nat.blt_eq]
  omega

def histN (n : Nat) : Nat → List Bool → List (Nat × Nat) → Nat → List Nat
  | 0, _, _, m => shiftL m [1]
  | f + 1, U, L, m =>
    let i := firstF U n
    if Nat.beq i n then shiftL m [1]
    else sumL (fun j => if Nat.blt i j && !U.getD j false then histN n f ((U.set i true).set j true) (L ++ [(i, j)]) (m + L.countP (crossN (i, j))) else []) n

theorem one_get (m c : Nat) : (shiftL m [1]).getD c 0 = if (m : Int) = (c : Int) then 1 else 0 := by
  rw [shiftL_get]
  by_cases h : c < m
  · rw [if_pos h, if_neg (by omega)]
  · rw [if_neg h]
    by_cases e : c = m
    · subst e; simp
    · rw [if_neg (by omega)]
      obtain ⟨k, hk⟩ : ∃ k, c - m = k + 1 := ⟨c - m - 1, by omega⟩
      rw [hk]; rfl

theorem histN_get (n c : Nat) : ∀ (f : Nat) (U : List Bool) (L : List (Nat × Nat)) (m : Nat), pairsC (L.map upP) = m → cdT n (c : Int) f U (L.map upP) = (histN n f U L m).getD c 0
  | 0, U, L, m, h => by
    unfold cdT histN
    rw [one_get, h]
  | f + 1, U, L, m, h => by
    unfold cdT histN
    simp only
    by_cases hi : firstF U n = n
    · have h2 : Nat.beq (firstF U n) n = true := by rw [Nat.beq_eq]; exact hi
      rw [if_pos hi, if_pos h2, one_get, h]
    · have h2 : ¬ Nat.beq (firstF U n) n = true := by rw [Nat.beq_eq]; exact hi
      rw [if_neg hi, if_neg h2, sumL_get]
      refine sumN_congr _ _ n fun j _ => ?_
      by_cases hj : firstF U n < j ∧ U.getD j false = false
      · have hb : (Nat.blt (firstF U n) j && !U.getD j false) = true := by
          rw [Bool.and_eq_true, Nat.blt_eq, hj.2]
          exact ⟨hj.1, rfl⟩
        rw [if_pos hj, if_pos hb]
        have e : L.map upP ++ [((firstF U n : Int), (j : Int))] = (L ++ [(firstF U n, j)]).map upP := by simp [upP]
        rw [e]
        refine histN_get n c f _ _ _ ?_
        rw [List.map_append, List.map_cons, List.map_nil, pairsC_snoc, h]
        congr 1
        unfold cntC
        rw [List.countP_map]
        congr 1
        funext y
        exact crossN_up (firstF U n, j) y
      · have hb : ¬ (Nat.blt (firstF U n) j && !U.getD j false) = true := by
          rw [Bool.and_eq_true, Nat.blt_eq]
          intro g
          refine hj ⟨g.1, ?_⟩
          have := g.2
          cases hv : U.getD j false
          · rfl
          · rw [hv] at this; cases this
        rw [if_neg hj, if_neg hb]
        rfl

def sameL (n : Nat) : Bool := histN n n (List.replicate n false) [] 0 == endL n 0

end Go.Proofs.Ytnnhjnogebicbab
