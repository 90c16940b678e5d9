/- Loops told anew: signs in the same places, rotations, parts. Nothing of the program. -/
import Derived.Test.YtpcebcgmbngababDoorJR
namespace Go.Proofs.YtpcebcgmbngababDoor

/-- Two texts have the same signs at the same places, below i. -/
def SameAt (L M : List UInt8) (n : Nat) : Prop := ∀ i j, i < n → j < n → (L.getD i 0 = L.getD j 0 ↔ M.getD i 0 = M.getD j 0)

theorem idx_map {f g : Nat → UInt8} (j : Nat) : ∀ p : List Nat, (∀ a ∈ p, f a = f j ↔ g a = g j) → (p.map f).idxOf (f j) = (p.map g).idxOf (g j)
  | [], _ => rfl
  | a :: p, h => by
    have ih := idx_map j p fun b hb => h b (by simp [hb])
    have ha := h a (by simp)
    rw [List.map_cons, List.map_cons, List.idxOf_cons, List.idxOf_cons, ih]
    by_cases e : f a = f j
    · rw [show (f a == f j) = true by simpa using e, show (g a == g j) = true by simpa using ha.1 e]
    · rw [show (f a == f j) = false by simpa using e, show (g a == g j) = false by simpa using fun e2 => e (ha.2 e2)]

theorem mem_map {f : Nat → UInt8} {p : List Nat} {j : Nat} : f j ∈ p.map f ↔ ∃ a ∈ p, f a = f j := by simp [List.mem_map]

theorem anewTo_same {L M : List UInt8} {n : Nat} (h : SameAt L M n) : ∀ i, i ≤ n → ∃ p : List Nat, (∀ a ∈ p, a < i) ∧ (anewTo L i).1 = p.map (fun a => L.getD a 0) ∧ (anewTo M i).1 = p.map (fun a => M.getD a 0) ∧ (anewTo L i).2 = (anewTo M i).2
  | 0, _ => ⟨[], by simp, rfl, rfl, rfl⟩
  | i + 1, hi => by
    obtain ⟨p, h1, h2, h3, h4⟩ := anewTo_same h i (by omega)
    have hm : L.getD i 0 ∈ p.map (fun a => L.getD a 0) ↔ M.getD i 0 ∈ p.map (fun a => M.getD a 0) := by
      rw [mem_map (f := fun a => L.getD a 0), mem_map (f := fun a => M.getD a 0)]
      constructor
      · rintro ⟨a, ha, e⟩; exact ⟨a, ha, (h a i (by have := h1 a ha; omega) (by omega)).1 e⟩
      · rintro ⟨a, ha, e⟩; exact ⟨a, ha, (h a i (by have := h1 a ha; omega) (by omega)).2 e⟩
    have hx := idx_map (f := fun a => L.getD a 0) (g := fun a => M.getD a 0) i p (fun a ha => h a i (by have := h1 a ha; omega) (by omega))
    rw [anewTo, anewTo, h2, h3, h4, hx]
    by_cases e : L.getD i 0 ∈ p.map (fun a => L.getD a 0)
    · rw [if_pos e, if_pos (hm.1 e)]
      exact ⟨p, fun a ha => by have := h1 a ha; omega, rfl, rfl, rfl⟩
    · rw [if_neg e, if_neg (fun e2 => e (hm.2 e2))]
      refine ⟨p ++ [i], fun a ha => ?_, by simp, by simp, rfl⟩
      rw [List.mem_append] at ha
      rcases ha with ha | ha
      · have := h1 a ha; omega
      · simp at ha; omega

theorem anewL_same {L M : List UInt8} (hl : L.length = M.length) (h : SameAt L M L.length) : anewL L = anewL M := by
  obtain ⟨_, _, _, _, h4⟩ := anewTo_same h L.length (Nat.le_refl _)
  unfold anewL
  rw [h4, hl]

theorem anewTo_mem (L : List UInt8) : ∀ i j, j < i → L.getD j 0 ∈ (anewTo L i).1
  | 0, _, h => by omega
  | i + 1, j, h => by
    rw [anewTo]
    by_cases e : j = i
    · subst e
      by_cases hm : L.getD j 0 ∈ (anewTo L j).1
      · rw [if_pos hm]; exact hm
      · rw [if_neg hm]; simp
    · have := anewTo_mem L i j (by omega)
      by_cases hm : L.getD i 0 ∈ (anewTo L i).1
      · rw [if_pos hm]; exact this
      · rw [if_neg hm]; exact List.mem_append_left _ this

theorem anewTo_get (L : List UInt8) : ∀ i j, j < i → (anewTo L i).2.getD j 0 = lt8 ((anewTo L i).1.idxOf (L.getD j 0))
  | 0, _, h => by omega
  | i + 1, j, h => by
    have hl := (anewTo_len L i).1
    rw [anewTo]
    by_cases e : j = i
    · subst e
      rw [getD_app, if_neg (by omega), if_pos hl.symm]
      by_cases hm : L.getD j 0 ∈ (anewTo L j).1
      · rw [if_pos hm]
      · rw [if_neg hm, List.idxOf_append, if_neg hm, List.idxOf_eq_length hm]
        simp
    · have ih := anewTo_get L i j (by omega)
      have hj := anewTo_mem L i j (by omega)
      rw [getD_app, if_pos (by omega), ih]
      by_cases hm : L.getD i 0 ∈ (anewTo L i).1
      · rw [if_pos hm]
      · rw [if_neg hm, List.idxOf_append, if_pos hj]

theorem anewL_get (L : List UInt8) (j : Nat) (h : j < L.length) : (anewL L).getD j 0 = lt8 ((anewTo L L.length).1.idxOf (L.getD j 0)) := anewTo_get L L.length j h

theorem idx_inj {l : List UInt8} {a b : UInt8} (ha : a ∈ l) (hb : b ∈ l) (h : l.idxOf a = l.idxOf b) : a = b := by
  have h1 := List.getElem_idxOf (List.idxOf_lt_length_iff.2 ha)
  have h2 := List.getElem_idxOf (List.idxOf_lt_length_iff.2 hb)
  simp only [h] at h1
  rw [← h1, h2]

theorem anewL_at (L : List UInt8) (h50 : L.length ≤ 50) : SameAt (anewL L) L L.length := by
  intro i j hi hj
  rw [anewL_get L i hi, anewL_get L j hj]
  have hI := anewTo_mem L L.length i hi
  have hJ := anewTo_mem L L.length j hj
  constructor
  · intro e
    have hle := (anewTo_len L L.length).2.1
    have h1 := List.idxOf_lt_length_iff.2 hI
    have h2 := List.idxOf_lt_length_iff.2 hJ
    exact idx_inj hI hJ (lt8_inj (by omega) (by omega) e)
  · intro e; rw [e]

theorem anewL_twice (L : List UInt8) (h50 : L.length ≤ 50) : anewL (anewL L) = anewL L :=
  anewL_same (anewL_length L) (by rw [anewL_length]; exact anewL_at L h50)

theorem getD_take (L : List UInt8) (e i : Nat) (h : i < e) : (L.take e).getD i 0 = L.getD i 0 := by
  rw [List.getD, List.getElem?_take_of_lt h]; rfl

theorem anewTo_part (L : List UInt8) (e : Nat) : ∀ i, i ≤ e → anewTo (L.take e) i = anewTo L i
  | 0, _ => rfl
  | i + 1, h => by rw [anewTo, anewTo, anewTo_part L e i (by omega), getD_take L e i (by omega)]

theorem anewL_take (L : List UInt8) (e : Nat) (h : e ≤ L.length) : anewL (L.take e) = (anewL L).take e := by
  unfold anewL
  rw [List.length_take, Nat.min_eq_left h, anewTo_part L e e (Nat.le_refl _), anewTo_take L L.length e h]

theorem cntTo_part (L : List UInt8) (c : UInt8) (e : Nat) : ∀ i, i ≤ e → cntTo (L.take e) c i = cntTo L c i
  | 0, _ => rfl
  | i + 1, h => by rw [cntTo, cntTo, cntTo_part L c e i (by omega), getD_take L e i (by omega)]

theorem cntTo_same {L M : List UInt8} {n : Nat} (h : SameAt L M n) {j : Nat} (hj : j < n) : ∀ i, i ≤ n → cntTo L (L.getD j 0) i = cntTo M (M.getD j 0) i
  | 0, _ => rfl
  | i + 1, hi => by
    rw [cntTo, cntTo, cntTo_same h hj i (by omega)]
    have := h i j (by omega) hj
    by_cases e : L.getD i 0 = L.getD j 0
    · rw [if_pos e, if_pos (this.1 e)]
    · rw [if_neg e, if_neg (fun e2 => e (this.2 e2))]

theorem cntTo_count (L : List UInt8) (c : UInt8) : ∀ i, i ≤ L.length → cntTo L c i = (L.take i).count c
  | 0, _ => by simp [cntTo]
  | i + 1, h => by
    rw [cntTo, cntTo_count L c i (by omega), take_succ_getD L i (by omega), List.count_append, List.count_singleton]
    by_cases e : L.getD i 0 = c
    · rw [if_pos e, if_pos (beq_iff_eq.2 e)]
    · rw [if_neg e, if_neg (fun h => e (beq_iff_eq.1 h))]

theorem cntL_count (L : List UInt8) (c : UInt8) : cntL L c = L.count c := by
  unfold cntL
  rw [cntTo_count L c _ (Nat.le_refl _), List.take_length]

/-- A text told from its sign k on. -/
def rotL (L : List UInt8) (k : Nat) : List UInt8 := L.drop k ++ L.take k

theorem rotL_length (L : List UInt8) (k : Nat) : (rotL L k).length = L.length := by
  unfold rotL
  rw [List.length_append, List.length_drop, List.length_take]
  omega

theorem rotL_zero (L : List UInt8) : rotL L 0 = L := by simp [rotL]

theorem rotL_cnt (L : List UInt8) (k : Nat) (c : UInt8) : cntL (rotL L k) c = cntL L c := by
  rw [cntL_count, cntL_count, rotL, List.count_append]
  have : (L.take k ++ L.drop k).count c = L.count c := by rw [List.take_append_drop]
  rw [List.count_append] at this
  omega

/-- Has a text each of its signs more than once? -/
def wholeL (L : List UInt8) : Bool := (List.range L.length).all fun i => decide (2 ≤ cntL L (L.getD i 0))

theorem wholeL_iff (L : List UInt8) : wholeL L = true ↔ ∀ i, i < L.length → 2 ≤ cntL L (L.getD i 0) := by simp [wholeL]

theorem part_good (R : List UInt8) (e : Nat) (he : e ≤ R.length) (h16 : R.length ≤ 16) (hc : ∀ i, i < R.length → cntL R (R.getD i 0) = 2) : goodL ((anewL R).take e) = wholeL (R.take e) := by
  have hlen : ((anewL R).take e).length = e := by rw [List.length_take, anewL_length, Nat.min_eq_left he]
  have hlen2 : (R.take e).length = e := by rw [List.length_take, Nat.min_eq_left he]
  have hS := anewL_at R (by omega)
  have hcnt : ∀ i, i < e → cntL ((anewL R).take e) (((anewL R).take e).getD i 0) = cntL (R.take e) ((R.take e).getD i 0) := by
    intro i hi
    unfold cntL
    rw [hlen, hlen2, cntTo_part _ _ e e (Nat.le_refl _), cntTo_part _ _ e e (Nat.le_refl _), getD_take _ e i hi, getD_take _ e i hi]
    exact cntTo_same hS (by omega) e (by omega)
  have han : anewL ((anewL R).take e) = (anewL R).take e := by rw [anewL_take _ _ (by rw [anewL_length]; exact he), anewL_twice R (by omega)]
  rw [Bool.eq_iff_iff, goodL_iff, wholeL_iff, hlen2]
  constructor
  · rintro ⟨_, _, h3, _⟩ i hi
    have := h3 i (by omega)
    rw [hcnt i hi] at this
    omega
  · intro h
    have h2 : ∀ i, i < ((anewL R).take e).length → cntL ((anewL R).take e) (((anewL R).take e).getD i 0) = 2 := by
      intro i hi
      rw [hlen] at hi
      have h3 := h i hi
      rw [hcnt i hi]
      have h4 := hc i (by omega)
      have h5 := cntTo_mono R (R.getD i 0) e R.length he
      unfold cntL at h3 h4 ⊢
      rw [hlen2, cntTo_part _ _ e e (Nat.le_refl _), getD_take _ e i hi] at h3 ⊢
      omega
    refine ⟨by omega, ?_, h2, han⟩
    obtain ⟨ps, hps⟩ := readTo_good _ (by omega) h2 han _ (Nat.le_refl _)
    have := sum_cnt (readTo_inv _ (by omega) _ (Nat.le_refl _) _ hps) h2
    omega

/-- Has no part of a loop, around, each of its letters twice? -/
def oneL (L : List UInt8) : Bool := (List.range L.length).all fun k => (List.range (L.length - 1)).all fun e => !wholeL ((rotL L k).take (e + 1))

end Go.Proofs.YtpcebcgmbngababDoor
