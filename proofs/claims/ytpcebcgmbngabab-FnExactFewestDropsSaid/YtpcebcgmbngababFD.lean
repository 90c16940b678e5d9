/- Masks in descending order are lists of indices in their own order. Nothing of the program. -/
import Derived.Test.YtpcebcgmbngababFA
namespace Go.Proofs.Ytpcebcgmbngabab
set_option linter.unusedVariables false

/-- The greatest number below t at which Q is true. -/
def firstD (Q : Nat → Bool) : Nat → Option Nat
  | 0 => none
  | t + 1 => if Q t then some t else firstD Q t

theorem firstD_some {Q : Nat → Bool} {t d : Nat} (h : firstD Q t = some d) : d < t ∧ Q d = true ∧ ∀ k, d < k → k < t → Q k = false := by
  induction t with
  | zero => cases h
  | succ t ih =>
    rw [firstD] at h
    split at h
    · rename_i hq
      cases h
      exact ⟨by omega, hq, fun k h1 h2 => by omega⟩
    · rename_i hq
      obtain ⟨h1, h2, h3⟩ := ih h
      refine ⟨by omega, h2, fun k h4 h5 => ?_⟩
      by_cases e : k = t
      · rw [e]; simpa using hq
      · exact h3 k h4 (by omega)

theorem firstD_none {Q : Nat → Bool} {t : Nat} (h : firstD Q t = none) : ∀ k, k < t → Q k = false := by
  induction t with
  | zero => intro k hk; omega
  | succ t ih =>
    rw [firstD] at h
    split at h
    · cases h
    · rename_i hq
      intro k hk
      by_cases e : k = t
      · rw [e]; simpa using hq
      · exact ih h k (by omega)

theorem firstD_split (Q : Nat → Bool) (a : Nat) : ∀ b, firstD Q (a + b) = match firstD (fun r => Q (a + r)) b with | some r => some (a + r) | none => firstD Q a
  | 0 => rfl
  | b + 1 => by
    rw [← Nat.add_assoc, firstD, firstD, firstD_split Q a b]
    by_cases h : Q (a + b) = true
    · simp [h]
    · simp [h]

theorem firstD_congr {Q R : Nat → Bool} : ∀ t, (∀ k, k < t → Q k = R k) → firstD Q t = firstD R t
  | 0, _ => rfl
  | t + 1, h => by rw [firstD, firstD, h t (by omega), firstD_congr t fun k hk => h k (by omega)]

/-- The indices from i on that the lowest n bits hold. -/
def idxM : Nat → Nat → Nat → List Nat
  | 0, _, _ => []
  | n + 1, i, m => if m / 2 ^ n % 2 = 1 then i :: idxM n (i + 1) m else idxM n (i + 1) m

theorem bit_more (n k r : Nat) (h : k < n) : (2 ^ n + r) / 2 ^ k % 2 = r / 2 ^ k % 2 := by
  obtain ⟨j, rfl⟩ : ∃ j, n = k + (j + 1) := ⟨n - k - 1, by omega⟩
  rw [Nat.pow_add, Nat.mul_add_div (Nat.two_pow_pos k), Nat.pow_succ, Nat.mul_comm (2 ^ j) 2, Nat.add_comm, Nat.add_mul_mod_self_left]

theorem bitsL_more (n : Nat) (r : Nat) : ∀ k, k ≤ n → bitsL k (2 ^ n + r) = bitsL k r
  | 0, _ => rfl
  | k + 1, h => by rw [bitsL, bitsL, bit_more n k r (by omega), bitsL_more n r k (by omega)]

theorem idxM_more (n : Nat) (r : Nat) : ∀ k i, k ≤ n → idxM k i (2 ^ n + r) = idxM k i r
  | 0, _, _ => rfl
  | k + 1, i, h => by rw [idxM, idxM, bit_more n k r (by omega), idxM_more n r k (i + 1) (by omega)]

theorem bit_top (n r : Nat) (h : r < 2 ^ n) : (2 ^ n + r) / 2 ^ n % 2 = 1 := by
  rw [Nat.add_div_left _ (Nat.two_pow_pos n), Nat.div_eq_of_lt h]

theorem bit_low (n r : Nat) (h : r < 2 ^ n) : r / 2 ^ n % 2 = 0 := by rw [Nat.div_eq_of_lt h]

/-- The model's search: with the next index first, then without it. -/
def pickT (P : List Nat → Bool) : Nat → Nat → Nat → List Nat → Option (List Nat)
  | 0, _, more, d => if more = 0 ∧ P d then some d else none
  | n + 1, i, more, d => if more = 0 then (if P d then some d else none) else match pickT P n (i + 1) (more - 1) (d ++ [i]) with | some x => some x | none => pickT P n (i + 1) more d

/-- Whether a mask is one of so many bits that P takes. -/
def takesM (P : List Nat → Bool) (n i more : Nat) (d : List Nat) (r : Nat) : Bool := decide ((bitsL n r).count true = more) && P (d ++ idxM n i r)

theorem count_zero_idx : ∀ n i r, (bitsL n r).count true = 0 → idxM n i r = []
  | 0, _, _, _ => rfl
  | n + 1, i, r, h => by
    rw [bitsL, List.count_cons] at h
    rw [idxM, if_neg, count_zero_idx n (i + 1) r (by omega)]
    intro e
    rw [decide_eq_true e] at h
    simp at h

theorem count_none : ∀ n, (bitsL n 0).count true = 0
  | 0 => rfl
  | n + 1 => by
    rw [bitsL, List.count_cons, count_none n]
    simp

theorem takes_zero (P : List Nat → Bool) (n i : Nat) (d : List Nat) (r : Nat) : takesM P n i 0 d r = (decide ((bitsL n r).count true = 0) && P d) := by
  unfold takesM
  by_cases h : (bitsL n r).count true = 0
  · rw [count_zero_idx n i r h]; simp
  · simp [h]

theorem pick_zero (P : List Nat → Bool) (n i : Nat) (d : List Nat) : pickT P n i 0 d = if P d = true then some d else none := by
  cases n <;> simp [pickT]

theorem pick_first (P : List Nat → Bool) : ∀ n i more d, (firstD (takesM P n i more d) (2 ^ n)).map (fun r => d ++ idxM n i r) = pickT P n i more d
  | 0, i, more, d => by
    rw [pickT, show 2 ^ 0 = 0 + 1 from rfl, firstD, firstD]
    unfold takesM
    rw [bitsL, idxM, List.append_nil]
    by_cases h : more = 0
    · subst h
      by_cases hp : P d = true <;> simp [hp, idxM]
    · have h' : ¬ 0 = more := fun e => h e.symm
      simp [h, h']
  | n + 1, i, more, d => by
    rw [pickT]
    have hlow : ∀ r, r < 2 ^ n → takesM P (n + 1) i more d r = takesM P n (i + 1) more d r := fun r hr => by
      unfold takesM
      rw [bitsL, idxM, bit_low n r hr]
      simp
    have hidl : ∀ r, r < 2 ^ n → idxM (n + 1) i r = idxM n (i + 1) r := fun r hr => by
      rw [idxM, bit_low n r hr]; simp
    have hidh : ∀ r, r < 2 ^ n → idxM (n + 1) i (2 ^ n + r) = i :: idxM n (i + 1) r := fun r hr => by
      rw [idxM, bit_top n r hr, idxM_more n r n (i + 1) (Nat.le_refl _)]; simp
    have hhigh : ∀ r, r < 2 ^ n → takesM P (n + 1) i more d (2 ^ n + r) = (decide (more ≠ 0) && takesM P n (i + 1) (more - 1) (d ++ [i]) r) := fun r hr => by
      unfold takesM
      rw [hidh r hr, bitsL, bit_top n r hr, bitsL_more n r n (Nat.le_refl _)]
      simp only [decide_true, List.count_cons_self, List.append_assoc, List.singleton_append]
      by_cases h : more = 0
      · subst h; simp
      · have e : ((bitsL n r).count true + 1 = more) = ((bitsL n r).count true = more - 1) := by apply propext; omega
        simp [h, e]
    rw [show 2 ^ (n + 1) = 2 ^ n + 2 ^ n by rw [Nat.pow_succ]; omega, firstD_split, firstD_congr _ hhigh, firstD_congr _ hlow]
    have ihl := pick_first P n (i + 1) more d
    by_cases h : more = 0
    · subst h
      have hn : firstD (fun r => decide ((0 : Nat) ≠ 0) && takesM P n (i + 1) (0 - 1) (d ++ [i]) r) (2 ^ n) = none := by
        generalize 2 ^ n = t
        induction t with
        | zero => rfl
        | succ t ih => rw [firstD, ih]; simp
      rw [hn, if_pos rfl, ← pick_zero P n (i + 1) d, ← ihl]
      show (firstD (takesM P n (i + 1) 0 d) (2 ^ n)).map _ = _
      cases hx : firstD (takesM P n (i + 1) 0 d) (2 ^ n) with
      | none => rfl
      | some r =>
        rw [Option.map_some, Option.map_some, hidl r (firstD_some hx).1]
    · have ihh := pick_first P n (i + 1) (more - 1) (d ++ [i])
      have hc : firstD (fun r => decide (more ≠ 0) && takesM P n (i + 1) (more - 1) (d ++ [i]) r) (2 ^ n) = firstD (takesM P n (i + 1) (more - 1) (d ++ [i])) (2 ^ n) := firstD_congr _ fun r _ => by simp [h]
      rw [hc, if_neg h, ← ihh, ← ihl]
      cases hx : firstD (takesM P n (i + 1) (more - 1) (d ++ [i])) (2 ^ n) with
      | some r =>
        simp only [Option.map_some]
        rw [hidh r (firstD_some hx).1]
        simp
      | none =>
        simp only [Option.map_none]
        cases hy : firstD (takesM P n (i + 1) more d) (2 ^ n) with
        | none => rfl
        | some r => rw [Option.map_some, Option.map_some, hidl r (firstD_some hy).1]

end Go.Proofs.Ytpcebcgmbngabab
