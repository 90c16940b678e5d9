/- Loops: their letters, and texts named anew. Nothing of the program. -/
import Derived.Test.YtpcebcgmbngababB1
namespace Go.Proofs.Ytpcebcgmbngabab

def lt8 (k : Nat) : UInt8 := UInt8.ofNat (97 + k)

theorem lt8_nat (k : Nat) (h : k < 100) : (lt8 k).toNat = 97 + k := by
  unfold lt8
  rw [UInt8.toNat_ofNat']
  omega

theorem lt8_inj {i j : Nat} (hi : i < 100) (hj : j < 100) (h : lt8 i = lt8 j) : i = j := by
  have := congrArg UInt8.toNat h
  rw [lt8_nat i hi, lt8_nat j hj] at this
  omega

theorem lt8_of (c : UInt8) (k : Nat) (h : c.toNat = 97 + k) : c = lt8 k := by
  apply UInt8.toNat_inj.1
  have := UInt8.toNat_lt c
  rw [lt8, UInt8.toNat_ofNat', h]
  omega

/-- How often a sign is among the first so many. -/
def cntTo (L : List UInt8) (c : UInt8) : Nat → Nat
  | 0 => 0
  | i + 1 => cntTo L c i + (if L.getD i 0 = c then 1 else 0)

def cntL (L : List UInt8) (c : UInt8) : Nat := cntTo L c L.length

/-- The names and the signs named anew of the first so many. -/
def anewTo (L : List UInt8) : Nat → List UInt8 × List UInt8
  | 0 => ([], [])
  | i + 1 => (if L.getD i 0 ∈ (anewTo L i).1 then (anewTo L i).1 else (anewTo L i).1 ++ [L.getD i 0], (anewTo L i).2 ++ [lt8 ((anewTo L i).1.idxOf (L.getD i 0))])

def anewL (L : List UInt8) : List UInt8 := (anewTo L L.length).2

theorem anewTo_len (L : List UInt8) : ∀ i, (anewTo L i).2.length = i ∧ (anewTo L i).1.length ≤ i ∧ (anewTo L i).1.Nodup
  | 0 => by simp [anewTo]
  | i + 1 => by
    obtain ⟨h1, h2, h3⟩ := anewTo_len L i
    refine ⟨by simp [anewTo, h1], ?_, ?_⟩
    · rw [anewTo]
      simp only
      split
      · omega
      · simp; omega
    · rw [anewTo]
      simp only
      split
      · exact h3
      · rename_i h
        rw [List.nodup_append]
        refine ⟨h3, by simp, ?_⟩
        intro a ha b hb
        simp at hb
        subst hb
        rintro rfl
        exact h (by simpa using ha)

theorem anewL_length (L : List UInt8) : (anewL L).length = L.length := (anewTo_len L _).1

theorem anewTo_take (L : List UInt8) : ∀ j i, i ≤ j → (anewTo L j).2.take i = (anewTo L i).2
  | 0, i, h => by obtain rfl : i = 0 := by omega
                  rfl
  | j + 1, i, h => by
    by_cases e : i = j + 1
    · subst e
      rw [List.take_of_length_le (by rw [(anewTo_len L _).1]; omega)]
    · rw [anewTo, List.take_append_of_le_length (by rw [(anewTo_len L _).1]; omega)]
      exact anewTo_take L j i (by omega)

/-- The letters in order: a, b, .. -/
def lts (n : Nat) : List UInt8 := (List.range n).map lt8

theorem lts_length (n : Nat) : (lts n).length = n := by simp [lts]

theorem lts_succ (n : Nat) : lts (n + 1) = lts n ++ [lt8 n] := by simp [lts, List.range_succ]

theorem mem_lts {n : Nat} {c : UInt8} : c ∈ lts n ↔ ∃ k, k < n ∧ c = lt8 k := by
  simp [lts]
  constructor
  · rintro ⟨k, h, rfl⟩; exact ⟨k, h, rfl⟩
  · rintro ⟨k, h, rfl⟩; exact ⟨k, h, rfl⟩

theorem idx_lts {n k : Nat} (h : k < n) (hn : n ≤ 50) : (lts n).idxOf (lt8 k) = k := by
  induction n with
  | zero => omega
  | succ n ih =>
    rw [lts_succ]
    by_cases e : k < n
    · rw [List.idxOf_append, if_pos (mem_lts.2 ⟨k, e, rfl⟩)]
      exact ih e (by omega)
    · obtain rfl : k = n := by omega
      rw [List.idxOf_append, if_neg ?_]
      · simp [lts_length]
      · intro hm
        obtain ⟨j, hj, e2⟩ := mem_lts.1 hm
        have := lt8_inj (by omega) (by omega) e2
        omega

theorem idx_none {l : List UInt8} {c : UInt8} (h : c ∉ l) : l.idxOf c = l.length := List.idxOf_eq_length h

/-- The program's reader: for each letter the places of its signs. -/
def stepR (ps : List (Nat × Nat)) (i : Nat) (c : UInt8) : Option (List (Nat × Nat)) :=
  if c.toNat < 97 ∨ 97 + ps.length < c.toNat then none
  else if c.toNat - 97 = ps.length then some (ps ++ [(i, i)])
  else if (ps.getD (c.toNat - 97) (0, 0)).2 = (ps.getD (c.toNat - 97) (0, 0)).1 then some (ps.set (c.toNat - 97) ((ps.getD (c.toNat - 97) (0, 0)).1, i)) else none

def readTo (L : List UInt8) : Nat → Option (List (Nat × Nat))
  | 0 => some []
  | i + 1 => (readTo L i).bind fun ps => stepR ps i (L.getD i 0)

def loopL (L : List UInt8) : Option (List (Nat × Nat)) :=
  if 16 < L.length then none else (readTo L L.length).bind fun ps => if L.length = 2 * ps.length then some ps else none

def twos (ps : List (Nat × Nat)) : Nat := (ps.map fun p => if p.2 = p.1 then 1 else 2).sum

theorem twos_append (ps : List (Nat × Nat)) (p : Nat × Nat) : twos (ps ++ [p]) = twos ps + if p.2 = p.1 then 1 else 2 := by simp [twos]

theorem twos_set (ps : List (Nat × Nat)) : ∀ (k : Nat) (p : Nat × Nat), k < ps.length → twos (ps.set k p) + (if (ps.getD k (0, 0)).2 = (ps.getD k (0, 0)).1 then 1 else 2) = twos ps + if p.2 = p.1 then 1 else 2 := by
  induction ps with
  | nil => intro k p h; simp at h
  | cons q r ih =>
    intro k p h
    cases k with
    | zero => simp [twos]; omega
    | succ k =>
      have := ih k p (by simpa using h)
      simp [twos] at this ⊢
      omega

theorem twos_le (ps : List (Nat × Nat)) : twos ps ≤ 2 * ps.length := by
  induction ps with
  | nil => simp [twos]
  | cons q r ih =>
    simp [twos] at ih ⊢
    split <;> omega

theorem twos_all (ps : List (Nat × Nat)) (h : twos ps = 2 * ps.length) : ∀ k, k < ps.length → (ps.getD k (0, 0)).2 ≠ (ps.getD k (0, 0)).1 := by
  induction ps with
  | nil => intro k hk; simp at hk
  | cons q r ih =>
    have h1 := twos_le r
    simp [twos] at h h1 ih
    have h2 : q.2 ≠ q.1 := by
      intro e
      rw [if_pos e] at h
      omega
    rw [if_neg h2] at h
    intro k hk
    cases k with
    | zero => simpa using h2
    | succ k => simpa using ih (by omega) k (by simpa using hk)

/-- What holds of the places that are read. -/
structure InvR (L : List UInt8) (i : Nat) (ps : List (Nat × Nat)) : Prop where
  few : ps.length ≤ i
  sum : twos ps = i
  sign : ∀ j, j < i → ∃ k, k < ps.length ∧ L.getD j 0 = lt8 k
  at' : ∀ k, k < ps.length → (ps.getD k (0, 0)).1 ≤ (ps.getD k (0, 0)).2 ∧ (ps.getD k (0, 0)).2 < i ∧ ∀ j, j < i → (L.getD j 0 = lt8 k ↔ j = (ps.getD k (0, 0)).1 ∨ j = (ps.getD k (0, 0)).2)
  cnt : ∀ k, k < ps.length → cntTo L (lt8 k) i = if (ps.getD k (0, 0)).2 = (ps.getD k (0, 0)).1 then 1 else 2
  names : (anewTo L i).1 = lts ps.length
  same : (anewTo L i).2 = L.take i

theorem getD_app {α : Type} (l : List α) (x z : α) (k : Nat) : (l ++ [x]).getD k z = if k < l.length then l.getD k z else if k = l.length then x else z := by
  simp only [List.getD, List.getElem?_append]
  split
  · rfl
  · next h =>
    split
    · next h2 => subst h2; simp
    · next h2 => rw [List.getElem?_eq_none (by simp; omega)]; rfl

theorem getD_setD {α : Type} (l : List α) (x z : α) (i k : Nat) (h : k < l.length) : (l.set k x).getD i z = if i = k then x else l.getD i z := by
  simp only [List.getD, List.getElem?_set]
  split
  · next e => subst e; rw [if_pos rfl]; simp
  · next e => rw [if_neg (fun e2 => e e2.symm)]

theorem cnt_none (L : List UInt8) (c : UInt8) : ∀ i, (∀ j, j < i → L.getD j 0 ≠ c) → cntTo L c i = 0
  | 0, _ => rfl
  | i + 1, h => by rw [cntTo, cnt_none L c i (fun j hj => h j (by omega)), if_neg (h i (by omega))]

theorem take_succ_getD (L : List UInt8) (i : Nat) (h : i < L.length) : L.take (i + 1) = L.take i ++ [L.getD i 0] := by
  rw [List.take_add_one, List.getElem?_eq_getElem h, List.getD, List.getElem?_eq_getElem h]
  rfl

theorem InvR.step {L : List UInt8} {i : Nat} {ps ps' : List (Nat × Nat)} (h : InvR L i ps) (hi : i < 16) (hl : i < L.length) (hs : stepR ps i (L.getD i 0) = some ps') : InvR L (i + 1) ps' := by
  unfold stepR at hs
  generalize hc : L.getD i 0 = c at hs
  by_cases h1 : c.toNat < 97 ∨ 97 + ps.length < c.toNat
  · rw [if_pos h1] at hs; cases hs
  · rw [if_neg h1] at hs
    obtain ⟨k, hk⟩ : ∃ k, c.toNat = 97 + k := ⟨c.toNat - 97, by omega⟩
    have hck := lt8_of c k hk
    have hkn : k ≤ ps.length := by omega
    have hfew := h.few
    rw [show c.toNat - 97 = k by omega] at hs
    by_cases h2 : k = ps.length
    · rw [if_pos h2] at hs
      cases hs
      have hnew : ∀ j, j < i → L.getD j 0 ≠ c := by
        intro j hj e
        obtain ⟨q, hq, e2⟩ := h.sign j hj
        rw [e, hck] at e2
        have := lt8_inj (by omega) (by omega) e2
        omega
      refine ⟨by simp; omega, by rw [twos_append, h.sum]; simp, ?_, ?_, ?_, ?_, ?_⟩
      · intro j hj
        by_cases e : j = i
        · subst e; exact ⟨k, by simp; omega, by rw [hc, hck]⟩
        · obtain ⟨q, hq, e2⟩ := h.sign j (by omega)
          exact ⟨q, by simp; omega, e2⟩
      · intro q hq
        rw [getD_app]
        by_cases hq2 : q < ps.length
        · rw [if_pos hq2]
          obtain ⟨g1, g2, g3⟩ := h.at' q hq2
          refine ⟨g1, by omega, fun j hj => ?_⟩
          by_cases e : j = i
          · subst e
            rw [hc, hck]
            constructor
            · intro e2
              have := lt8_inj (by omega) (by omega) e2
              omega
            · intro e2; omega
          · exact g3 j (by omega)
        · rw [List.length_append, List.length_singleton] at hq
          obtain rfl : q = ps.length := by omega
          rw [if_neg hq2, if_pos rfl]
          refine ⟨Nat.le_refl _, by simp, fun j hj => ?_⟩
          simp only [or_self]
          constructor
          · intro e
            by_cases e2 : j = i
            · exact e2
            · exact absurd (by rw [e, hck, h2]) (hnew j (by omega))
          · rintro rfl
            rw [hc, hck, h2]
      · intro q hq
        rw [getD_app, cntTo, hc]
        by_cases hq2 : q < ps.length
        · have hne : ¬ c = lt8 q := fun e => by rw [hck] at e; have := lt8_inj (by omega) (by omega) e; omega
          rw [if_pos hq2, h.cnt q hq2, if_neg hne]
          rfl
        · simp at hq
          obtain rfl : q = ps.length := by omega
          rw [if_neg hq2, if_pos rfl, if_pos rfl, if_pos (by rw [hck, h2]), cnt_none L _ i (fun j hj => by rw [← h2, ← hck]; exact hnew j hj)]
      · rw [anewTo]
        simp only
        rw [h.names, hc, if_neg ?_, List.length_append, List.length_singleton, lts_succ, hck, h2]
        intro hm
        obtain ⟨q, hq, e⟩ := mem_lts.1 hm
        rw [hck] at e
        have := lt8_inj (by omega) (by omega) e
        omega
      · rw [anewTo]
        simp only
        rw [h.same, h.names, hc, take_succ_getD L i hl, hc, idx_none ?_, lts_length, hck, h2]
        intro hm
        obtain ⟨q, hq, e⟩ := mem_lts.1 hm
        rw [hck] at e
        have := lt8_inj (by omega) (by omega) e
        omega
    · rw [if_neg h2] at hs
      by_cases h3 : (ps.getD k (0, 0)).2 = (ps.getD k (0, 0)).1
      · rw [if_pos h3] at hs
        cases hs
        have hkl : k < ps.length := by omega
        obtain ⟨f1, f2, f3⟩ := h.at' k hkl
        refine ⟨by simp; omega, ?_, ?_, ?_, ?_, ?_, ?_⟩
        · have := twos_set ps k ((ps.getD k (0, 0)).1, i) hkl
          rw [if_pos h3, if_neg (show ¬ ((ps.getD k (0, 0)).1, i).2 = ((ps.getD k (0, 0)).1, i).1 from fun e => by have e' : i = (ps.getD k (0, 0)).1 := e; omega), h.sum] at this
          omega
        · intro j hj
          by_cases e : j = i
          · subst e; exact ⟨k, by simp; omega, by rw [hc, hck]⟩
          · obtain ⟨q, hq, e2⟩ := h.sign j (by omega)
            exact ⟨q, by simpa using hq, e2⟩
        · intro q hq
          rw [List.length_set] at hq
          rw [getD_setD _ _ _ _ _ hkl]
          by_cases e : q = k
          · subst e
            rw [if_pos rfl]
            refine ⟨show (ps.getD q (0, 0)).1 ≤ i by omega, by simp, fun j hj => ?_⟩
            by_cases e : j = i
            · subst e
              rw [hc]
              exact ⟨fun _ => .inr rfl, fun _ => hck⟩
            · rw [f3 j (by omega), h3]
              simp [e]
          · rw [if_neg e]
            obtain ⟨g1, g2, g3⟩ := h.at' q hq
            refine ⟨g1, by omega, fun j hj => ?_⟩
            by_cases e3 : j = i
            · subst e3
              rw [hc, hck]
              constructor
              · intro e2
                have := lt8_inj (by omega) (by omega) e2
                omega
              · intro e2; omega
            · exact g3 j (by omega)
        · intro q hq
          rw [List.length_set] at hq
          rw [getD_setD _ _ _ _ _ hkl, cntTo, hc, h.cnt q hq]
          by_cases e : q = k
          · subst e
            rw [if_pos rfl, if_pos h3, if_pos hck, if_neg (show ¬ ((ps.getD q (0, 0)).1, i).2 = ((ps.getD q (0, 0)).1, i).1 from fun e => by have e' : i = (ps.getD q (0, 0)).1 := e; omega)]
          · have hne : ¬ c = lt8 q := fun e2 => by rw [hck] at e2; have := lt8_inj (by omega) (by omega) e2; omega
            rw [if_neg e, if_neg hne]
            rfl
        · rw [anewTo]
          simp only
          rw [h.names, hc, if_pos (mem_lts.2 ⟨k, hkl, hck⟩), List.length_set]
        · rw [anewTo]
          simp only
          rw [h.same, h.names, hc, take_succ_getD L i hl, hc, hck, idx_lts hkl (by omega)]
      · rw [if_neg h3] at hs; cases hs

theorem InvR.zero (L : List UInt8) : InvR L 0 [] := ⟨by simp, rfl, fun j hj => by omega, fun k hk => by simp at hk, fun k hk => by simp at hk, rfl, rfl⟩

theorem readTo_inv (L : List UInt8) (h : L.length ≤ 16) : ∀ i, i ≤ L.length → ∀ ps, readTo L i = some ps → InvR L i ps
  | 0, _, ps, e => by cases e; exact InvR.zero L
  | i + 1, hi, ps, e => by
    rw [readTo] at e
    cases e1 : readTo L i with
    | none => rw [e1] at e; cases e
    | some qs =>
      rw [e1] at e
      exact (readTo_inv L h i (by omega) qs e1).step (by omega) (by omega) e

/-- Where a text that is a loop for the model is read, nothing fails. -/
theorem readTo_good (L : List UInt8) (h : L.length ≤ 16) (hc : ∀ i, i < L.length → cntL L (L.getD i 0) = 2) (ha : anewL L = L) : ∀ i, i ≤ L.length → ∃ ps, readTo L i = some ps
  | 0, _ => ⟨[], rfl⟩
  | i + 1, hi => by
    obtain ⟨ps, e⟩ := readTo_good L h hc ha i (by omega)
    have hI := readTo_inv L h i (by omega) ps e
    have hfew := hI.few
    have ht : (anewTo L (i + 1)).2 = L.take (i + 1) := by
      rw [← anewTo_take L L.length (i + 1) hi]
      show (anewL L).take (i + 1) = _
      rw [ha]
    rw [take_succ_getD L i (by omega), anewTo] at ht
    simp only at ht
    rw [hI.same, hI.names] at ht
    have ht2 := List.append_cancel_left ht
    simp at ht2
    rw [readTo, e]
    show ∃ qs, stepR ps i (L.getD i 0) = some qs
    have hle : (lts ps.length).idxOf (L.getD i 0) ≤ ps.length := by
      have := List.idxOf_le_length (l := lts ps.length) (a := L.getD i 0)
      rwa [lts_length] at this
    obtain ⟨k, hk⟩ : ∃ k, (lts ps.length).idxOf (L.getD i 0) = k := ⟨_, rfl⟩
    rw [← List.getD_eq_getElem?_getD, hk] at ht2
    rw [hk] at hle
    have hn := congrArg UInt8.toNat ht2
    rw [lt8_nat k (by omega)] at hn
    unfold stepR
    rw [if_neg (by omega), show (L.getD i 0).toNat - 97 = k by omega]
    by_cases h2 : k = ps.length
    · rw [if_pos h2]; exact ⟨_, rfl⟩
    · rw [if_neg h2]
      by_cases h3 : (ps.getD k (0, 0)).2 = (ps.getD k (0, 0)).1
      · rw [if_pos h3]; exact ⟨_, rfl⟩
      · exfalso
        have h4 := hI.cnt k (by omega)
        rw [if_neg h3] at h4
        have h5 := hc i (by omega)
        have h6 : ∀ m, i < m → 3 ≤ cntTo L (lt8 k) m := by
          intro m
          induction m with
          | zero => omega
          | succ m ih =>
            intro hm
            rw [cntTo]
            by_cases e : i = m
            · subst e
              rw [h4, if_pos ht2.symm]
              omega
            · have := ih (by omega)
              omega
        have h7 := h6 L.length (by omega)
        rw [ht2] at h7
        unfold cntL at h5
        omega

/-- Is a text a loop for the model? -/
def goodL (L : List UInt8) : Bool := decide (L.length ≤ 16) && (L.length % 2 == 0) && (List.range L.length).all (fun i => cntL L (L.getD i 0) == 2) && (anewL L == L)

theorem goodL_iff (L : List UInt8) : goodL L = true ↔ L.length ≤ 16 ∧ L.length % 2 = 0 ∧ (∀ i, i < L.length → cntL L (L.getD i 0) = 2) ∧ anewL L = L := by
  simp [goodL, and_assoc]

/-- What holds of a loop. -/
structure LoopP (L : List UInt8) (ps : List (Nat × Nat)) : Prop where
  len : L.length = 2 * ps.length
  few : ps.length ≤ 8
  sign : ∀ j, j < L.length → ∃ k, k < ps.length ∧ L.getD j 0 = lt8 k
  lt : ∀ k, k < ps.length → (ps.getD k (0, 0)).1 < (ps.getD k (0, 0)).2 ∧ (ps.getD k (0, 0)).2 < L.length
  at' : ∀ k, k < ps.length → ∀ j, j < L.length → (L.getD j 0 = lt8 k ↔ j = (ps.getD k (0, 0)).1 ∨ j = (ps.getD k (0, 0)).2)
  anew : anewL L = L

theorem loopL_some {L : List UInt8} {ps : List (Nat × Nat)} (h : loopL L = some ps) : LoopP L ps ∧ goodL L = true := by
  unfold loopL at h
  by_cases h1 : 16 < L.length
  · rw [if_pos h1] at h; cases h
  · rw [if_neg h1] at h
    cases e : readTo L L.length with
    | none => rw [e] at h; cases h
    | some qs =>
      rw [e] at h
      change (if L.length = 2 * qs.length then some qs else none) = some ps at h
      by_cases h2 : L.length = 2 * qs.length
      · rw [if_pos h2] at h
        have h9 := Option.some.inj h
        subst h9
        have hI := readTo_inv L (by omega) _ (Nat.le_refl _) _ e
        have hall := twos_all qs (by rw [hI.sum]; exact h2)
        have han : anewL L = L := by
          have := hI.same
          rwa [List.take_of_length_le (Nat.le_refl _)] at this
        refine ⟨⟨h2, by omega, hI.sign, fun k hk => ?_, fun k hk => (hI.at' k hk).2.2, han⟩, (goodL_iff L).2 ⟨by omega, by omega, fun i hi => ?_, han⟩⟩
        · have := hI.at' k hk
          have := hall k hk
          omega
        · obtain ⟨k, hk, e2⟩ := hI.sign i hi
          rw [e2]
          have := hI.cnt k hk
          rw [if_neg (hall k hk)] at this
          exact this
      · rw [if_neg h2] at h; cases h

theorem sum_cnt {L : List UInt8} {ps : List (Nat × Nat)} (h : InvR L L.length ps) (hc : ∀ i, i < L.length → cntL L (L.getD i 0) = 2) : L.length = 2 * ps.length := by
  have h1 : ∀ k, k < ps.length → (ps.getD k (0, 0)).2 ≠ (ps.getD k (0, 0)).1 := by
    intro k hk e
    have h2 := h.cnt k hk
    rw [if_pos e] at h2
    obtain ⟨f1, f2, f3⟩ := h.at' k hk
    have h3 := hc _ f2
    rw [(f3 _ f2).2 (.inr rfl)] at h3
    unfold cntL at h3
    omega
  have h2 : ∀ qs : List (Nat × Nat), (∀ k, k < qs.length → (qs.getD k (0, 0)).2 ≠ (qs.getD k (0, 0)).1) → twos qs = 2 * qs.length := by
    intro qs
    induction qs with
    | nil => intro _; rfl
    | cons q r ih =>
      intro hq
      have hr := ih (fun k hk => by have := hq (k + 1) (by simpa using hk); simpa using this)
      have h0 := hq 0 (by simp)
      simp at h0
      simp [twos] at hr ⊢
      rw [if_neg h0]
      omega
  rw [← h2 ps h1, h.sum]

theorem loopL_none {L : List UInt8} (h : loopL L = none) : goodL L = false := by
  rw [Bool.eq_false_iff]
  intro hg
  obtain ⟨g1, g2, g3, g4⟩ := (goodL_iff L).1 hg
  obtain ⟨ps, e⟩ := readTo_good L g1 g3 g4 _ (Nat.le_refl _)
  have hI := readTo_inv L g1 _ (Nat.le_refl _) _ e
  unfold loopL at h
  rw [if_neg (by omega), e] at h
  change (if L.length = 2 * ps.length then some ps else none) = none at h
  rw [if_pos (sum_cnt hI g3)] at h
  cases h

end Go.Proofs.Ytpcebcgmbngabab
