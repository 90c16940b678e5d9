/- ZJ: J1, J2, J3, J4, J5, J7, J6, J8, J9, JA, JB, JW, JD, JZ, J0, one after the other. -/
import Derived.Test.YtnldnjgnpdicnaaBA
import Derived.Test.YtnldnjgnpdicnaaW1
import Derived.Deep.RegionHeld3
import Derived.Test.YtnldnjgnpdicnaaC1
import Derived.Test.YtnldnjgnpdicnaaRows
import Derived.Test.YtnldnjgnpdicnaaET
import Derived.Test.YtnldnjgnpdicnaaV0
import Derived.Test.YtnldnjgnpdicnaaB9
import Derived.Laws.BytesArg
import Derived.WalkMore
import Derived.ScopeJumps
namespace Go.Proofs.Ytnldnjgnpdicnaa

def lt8 (k : Nat) : UInt8 := UInt8.ofNat (97 + k)

theorem lt8_nat (k : Nat) (h : k < 100) : (lt8 k).toNat = 97 + k := by
  unfold lt8
  rw [UInt8.toNat_ofNat']
  omega

theorem lt8_inj {i j : Nat} (hi : i < 100) (hj : j < 100) (h : lt8 i = lt8 j) : i = j := by
  have := congrArg UInt8.toNat h
  rw [lt8_nat i hi, lt8_nat j hj] at this
  omega

theorem lt8_of (c : UInt8) (k : Nat) (h : c.toNat = 97 + k) : c = lt8 k := by
  apply UInt8.toNat_inj.1
  have := UInt8.toNat_lt c
  rw [lt8, UInt8.toNat_ofNat', h]
  omega

/-- How often a sign is among the first so many. -/
def cntTo (L : List UInt8) (c : UInt8) : Nat → Nat
  | 0 => 0
  | i + 1 => cntTo L c i + (if L.getD i 0 = c then 1 else 0)

def cntL (L : List UInt8) (c : UInt8) : Nat := cntTo L c L.length

/-- The names and the signs named anew of the first so many. -/
def anewTo (L : List UInt8) : Nat → List UInt8 × List UInt8
  | 0 => ([], [])
  | i + 1 => (if L.getD i 0 ∈ (anewTo L i).1 then (anewTo L i).1 else (anewTo L i).1 ++ [L.getD i 0], (anewTo L i).2 ++ [lt8 ((anewTo L i).1.idxOf (L.getD i 0))])

def anewL (L : List UInt8) : List UInt8 := (anewTo L L.length).2

theorem anewTo_len (L : List UInt8) : ∀ i, (anewTo L i).2.length = i ∧ (anewTo L i).1.length ≤ i ∧ (anewTo L i).1.Nodup
  | 0 => by simp [anewTo]
  | i + 1 => by
    obtain ⟨h1, h2, h3⟩ := anewTo_len L i
    refine ⟨by simp [anewTo, h1], ?_, ?_⟩
    · rw [anewTo]
      simp only
      split
      · omega
      · simp; omega
    · rw [anewTo]
      simp only
      split
      · exact h3
      · rename_i h
        rw [List.nodup_append]
        refine ⟨h3, by simp, ?_⟩
        intro a ha b hb
        simp at hb
        subst hb
        rintro rfl
        exact h (by simpa using ha)

theorem anewL_length (L : List UInt8) : (anewL L).length = L.length := (anewTo_len L _).1

theorem anewTo_take (L : List UInt8) : ∀ j i, i ≤ j → (anewTo L j).2.take i = (anewTo L i).2
  | 0, i, h => by obtain rfl : i = 0 := by omega
                  rfl
  | j + 1, i, h => by
    by_cases e : i = j + 1
    · subst e
      rw [List.take_of_length_le (by rw [(anewTo_len L _).1]; omega)]
    · rw [anewTo, List.take_append_of_le_length (by rw [(anewTo_len L _).1]; omega)]
      exact anewTo_take L j i (by omega)

/-- The letters in order: a, b, .. -/
def lts (n : Nat) : List UInt8 := (List.range n).map lt8

theorem lts_length (n : Nat) : (lts n).length = n := by simp [lts]

theorem lts_succ (n : Nat) : lts (n + 1) = lts n ++ [lt8 n] := by simp [lts, List.range_succ]

theorem mem_lts {n : Nat} {c : UInt8} : c ∈ lts n ↔ ∃ k, k < n ∧ c = lt8 k := by
  simp [lts]
  constructor
  · rintro ⟨k, h, rfl⟩; exact ⟨k, h, rfl⟩
  · rintro ⟨k, h, rfl⟩; exact ⟨k, h, rfl⟩

theorem idx_lts {n k : Nat} (h : k < n) (hn : n ≤ 50) : (lts n).idxOf (lt8 k) = k := by
  induction n with
  | zero => omega
  | succ n ih =>
    rw [lts_succ]
    by_cases e : k < n
    · rw [List.idxOf_append, if_pos (mem_lts.2 ⟨k, e, rfl⟩)]
      exact ih e (by omega)
    · obtain rfl : k = n := by omega
      rw [List.idxOf_append, if_neg ?_]
      · simp [lts_length]
      · intro hm
        obtain ⟨j, hj, e2⟩ := mem_lts.1 hm
        have := lt8_inj (by omega) (by omega) e2
        omega

theorem idx_none {l : List UInt8} {c : UInt8} (h : c ∉ l) : l.idxOf c = l.length := List.idxOf_eq_length h

/-- The program's reader: for each letter the places of its signs. -/
def stepR (ps : List (Nat × Nat)) (i : Nat) (c : UInt8) : Option (List (Nat × Nat)) :=
  if c.toNat < 97 ∨ 97 + ps.length < c.toNat then none
  else if c.toNat - 97 = ps.length then some (ps ++ [(i, i)])
  else if (ps.getD (c.toNat - 97) (0, 0)).2 = (ps.getD (c.toNat - 97) (0, 0)).1 then some (ps.set (c.toNat - 97) ((ps.getD (c.toNat - 97) (0, 0)).1, i)) else none

def readTo (L : List UInt8) : Nat → Option (List (Nat × Nat))
  | 0 => some []
  | i + 1 => (readTo L i).bind fun ps => stepR ps i (L.getD i 0)

def loopL (L : List UInt8) : Option (List (Nat × Nat)) :=
  if 16 < L.length then none else (readTo L L.length).bind fun ps => if L.length = 2 * ps.length then some ps else none

def twos (ps : List (Nat × Nat)) : Nat := (ps.map fun p => if p.2 = p.1 then 1 else 2).sum

theorem twos_append (ps : List (Nat × Nat)) (p : Nat × Nat) : twos (ps ++ [p]) = twos ps + if p.2 = p.1 then 1 else 2 := by simp [twos]

theorem twos_set (ps : List (Nat × Nat)) : ∀ (k : Nat) (p : Nat × Nat), k < ps.length → twos (ps.set k p) + (if (ps.getD k (0, 0)).2 = (ps.getD k (0, 0)).1 then 1 else 2) = twos ps + if p.2 = p.1 then 1 else 2 := by
  induction ps with
  | nil => intro k p h; simp at h
  | cons q r ih =>
    intro k p h
    cases k with
    | zero => simp [twos]; omega
    | succ k =>
      have := ih k p (by simpa using h)
      simp [twos] at this ⊢
      omega

theorem twos_le (ps : List (Nat × Nat)) : twos ps ≤ 2 * ps.length := by
  induction ps with
  | nil => simp [twos]
  | cons q r ih =>
    simp [twos] at ih ⊢
    split <;> omega

theorem twos_all (ps : List (Nat × Nat)) (h : twos ps = 2 * ps.length) : ∀ k, k < ps.length → (ps.getD k (0, 0)).2 ≠ (ps.getD k (0, 0)).1 := by
  induction ps with
  | nil => intro k hk; simp at hk
  | cons q r ih =>
    have h1 := twos_le r
    simp [twos] at h h1 ih
    have h2 : q.2 ≠ q.1 := by
      intro e
      rw [if_pos e] at h
      omega
    rw [if_neg h2] at h
    intro k hk
    cases k with
    | zero => simpa using h2
    | succ k => simpa using ih (by omega) k (by simpa using hk)

/-- What holds of the places that are read. -/
structure InvR (L : List UInt8) (i : Nat) (ps : List (Nat × Nat)) : Prop where
  few : ps.length ≤ i
  sum : twos ps = i
  sign : ∀ j, j < i → ∃ k, k < ps.length ∧ L.getD j 0 = lt8 k
  at' : ∀ k, k < ps.length → (ps.getD k (0, 0)).1 ≤ (ps.getD k (0, 0)).2 ∧ (ps.getD k (0, 0)).2 < i ∧ ∀ j, j < i → (L.getD j 0 = lt8 k ↔ j = (ps.getD k (0, 0)).1 ∨ j = (ps.getD k (0, 0)).2)
  cnt : ∀ k, k < ps.length → cntTo L (lt8 k) i = if (ps.getD k (0, 0)).2 = (ps.getD k (0, 0)).1 then 1 else 2
  names : (anewTo L i).1 = lts ps.length
  same : (anewTo L i).2 = L.take i

theorem getD_app {α : Type} (l : List α) (x z : α) (k : Nat) : (l ++ [x]).getD k z = if k < l.length then l.getD k z else if k = l.length then x else z := by
  simp only [List.getD, List.getElem?_append]
  split
  · rfl
  · next h =>
    split
    · next h2 => subst h2; simp
    · next h2 => rw [List.getElem?_eq_none (by simp; omega)]; rfl

theorem getD_setD {α : Type} (l : List α) (x z : α) (i k : Nat) (h : k < l.length) : (l.set k x).getD i z = if i = k then x else l.getD i z := by
  simp only [List.getD, List.getElem?_set]
  split
  · next e => subst e; rw [if_pos rfl]; simp
  · next e => rw [if_neg (fun e2 => e e2.symm)]

theorem cnt_none (L : List UInt8) (c : UInt8) : ∀ i, (∀ j, j < i → L.getD j 0 ≠ c) → cntTo L c i = 0
  | 0, _ => rfl
  | i + 1, h => by rw [cntTo, cnt_none L c i (fun j hj => h j (by omega)), if_neg (h i (by omega))]

theorem take_succ_getD (L : List UInt8) (i : Nat) (h : i < L.length) : L.take (i + 1) = L.take i ++ [L.getD i 0] := by
  rw [List.take_add_one, List.getElem?_eq_getElem h, List.getD, List.getElem?_eq_getElem h]
  rfl

theorem InvR.step {L : List UInt8} {i : Nat} {ps ps' : List (Nat × Nat)} (h : InvR L i ps) (hi : i < 16) (hl : i < L.length) (hs : stepR ps i (L.getD i 0) = some ps') : InvR L (i + 1) ps' := by
  unfold stepR at hs
  generalize hc : L.getD i 0 = c at hs
  by_cases h1 : c.toNat < 97 ∨ 97 + ps.length < c.toNat
  · rw [if_pos h1] at hs; cases hs
  · rw [if_neg h1] at hs
    obtain ⟨k, hk⟩ : ∃ k, c.toNat = 97 + k := ⟨c.toNat - 97, by omega⟩
    have hck := lt8_of c k hk
    have hkn : k ≤ ps.length := by omega
    have hfew := h.few
    rw [show c.toNat - 97 = k by omega] at hs
    by_cases h2 : k = ps.length
    · rw [if_pos h2] at hs
      cases hs
      have hnew : ∀ j, j < i → L.getD j 0 ≠ c := by
        intro j hj e
        obtain ⟨q, hq, e2⟩ := h.sign j hj
        rw [e, hck] at e2
        have := lt8_inj (by omega) (by omega) e2
        omega
      refine ⟨by simp; omega, by rw [twos_append, h.sum]; simp, ?_, ?_, ?_, ?_, ?_⟩
      · intro j hj
        by_cases e : j = i
        · subst e; exact ⟨k, by simp; omega, by rw [hc, hck]⟩
        · obtain ⟨q, hq, e2⟩ := h.sign j (by omega)
          exact ⟨q, by simp; omega, e2⟩
      · intro q hq
        rw [getD_app]
        by_cases hq2 : q < ps.length
        · rw [if_pos hq2]
          obtain ⟨g1, g2, g3⟩ := h.at' q hq2
          refine ⟨g1, by omega, fun j hj => ?_⟩
          by_cases e : j = i
          · subst e
            rw [hc, hck]
            constructor
            · intro e2
              have := lt8_inj (by omega) (by omega) e2
              omega
            · intro e2; omega
          · exact g3 j (by omega)
        · rw [List.length_append, List.length_singleton] at hq
          obtain rfl : q = ps.length := by omega
          rw [if_neg hq2, if_pos rfl]
          refine ⟨Nat.le_refl _, by simp, fun j hj => ?_⟩
          simp only [or_self]
          constructor
          · intro e
            by_cases e2 : j = i
            · exact e2
            · exact absurd (by rw [e, hck, h2]) (hnew j (by omega))
          · rintro rfl
            rw [hc, hck, h2]
      · intro q hq
        rw [getD_app, cntTo, hc]
        by_cases hq2 : q < ps.length
        · have hne : ¬ c = lt8 q := fun e => by rw [hck] at e; have := lt8_inj (by omega) (by omega) e; omega
          rw [if_pos hq2, h.cnt q hq2, if_neg hne]
          rfl
        · simp at hq
          obtain rfl : q = ps.length := by omega
          rw [if_neg hq2, if_pos rfl, if_pos rfl, if_pos (by rw [hck, h2]), cnt_none L _ i (fun j hj => by rw [← h2, ← hck]; exact hnew j hj)]
      · rw [anewTo]
        simp only
        rw [h.names, hc, if_neg ?_, List.length_append, List.length_singleton, lts_succ, hck, h2]
        intro hm
        obtain ⟨q, hq, e⟩ := mem_lts.1 hm
        rw [hck] at e
        have := lt8_inj (by omega) (by omega) e
        omega
      · rw [anewTo]
        simp only
        rw [h.same, h.names, hc, take_succ_getD L i hl, hc, idx_none ?_, lts_length, hck, h2]
        intro hm
        obtain ⟨q, hq, e⟩ := mem_lts.1 hm
        rw [hck] at e
        have := lt8_inj (by omega) (by omega) e
        omega
    · rw [if_neg h2] at hs
      by_cases h3 : (ps.getD k (0, 0)).2 = (ps.getD k (0, 0)).1
      · rw [if_pos h3] at hs
        cases hs
        have hkl : k < ps.length := by omega
        obtain ⟨f1, f2, f3⟩ := h.at' k hkl
        refine ⟨by simp; omega, ?_, ?_, ?_, ?_, ?_, ?_⟩
        · have := twos_set ps k ((ps.getD k (0, 0)).1, i) hkl
          rw [if_pos h3, if_neg (show ¬ ((ps.getD k (0, 0)).1, i).2 = ((ps.getD k (0, 0)).1, i).1 from fun e => by have e' : i = (ps.getD k (0, 0)).1 := e; omega), h.sum] at this
          omega
        · intro j hj
          by_cases e : j = i
          · subst e; exact ⟨k, by simp; omega, by rw [hc, hck]⟩
          · obtain ⟨q, hq, e2⟩ := h.sign j (by omega)
            exact ⟨q, by simpa using hq, e2⟩
        · intro q hq
          rw [List.length_set] at hq
          rw [getD_setD _ _ _ _ _ hkl]
          by_cases e : q = k
          · subst e
            rw [if_pos rfl]
            refine ⟨show (ps.getD q (0, 0)).1 ≤ i by omega, by simp, fun j hj => ?_⟩
            by_cases e : j = i
            · subst e
              rw [hc]
              exact ⟨fun _ => .inr rfl, fun _ => hck⟩
            · rw [f3 j (by omega), h3]
              simp [e]
          · rw [if_neg e]
            obtain ⟨g1, g2, g3⟩ := h.at' q hq
            refine ⟨g1, by omega, fun j hj => ?_⟩
            by_cases e3 : j = i
            · subst e3
              rw [hc, hck]
              constructor
              · intro e2
                have := lt8_inj (by omega) (by omega) e2
                omega
              · intro e2; omega
            · exact g3 j (by omega)
        · intro q hq
          rw [List.length_set] at hq
          rw [getD_setD _ _ _ _ _ hkl, cntTo, hc, h.cnt q hq]
          by_cases e : q = k
          · subst e
            rw [if_pos rfl, if_pos h3, if_pos hck, if_neg (show ¬ ((ps.getD q (0, 0)).1, i).2 = ((ps.getD q (0, 0)).1, i).1 from fun e => by have e' : i = (ps.getD q (0, 0)).1 := e; omega)]
          · have hne : ¬ c = lt8 q := fun e2 => by rw [hck] at e2; have := lt8_inj (by omega) (by omega) e2; omega
            rw [if_neg e, if_neg hne]
            rfl
        · rw [anewTo]
          simp only
          rw [h.names, hc, if_pos (mem_lts.2 ⟨k, hkl, hck⟩), List.length_set]
        · rw [anewTo]
          simp only
          rw [h.same, h.names, hc, take_succ_getD L i hl, hc, hck, idx_lts hkl (by omega)]
      · rw [if_neg h3] at hs; cases hs

theorem InvR.zero (L : List UInt8) : InvR L 0 [] := ⟨by simp, rfl, fun j hj => by omega, fun k hk => by simp at hk, fun k hk => by simp at hk, rfl, rfl⟩

theorem readTo_inv (L : List UInt8) (h : L.length ≤ 16) : ∀ i, i ≤ L.length → ∀ ps, readTo L i = some ps → InvR L i ps
  | 0, _, ps, e => by cases e; exact InvR.zero L
  | i + 1, hi, ps, e => by
    rw [readTo] at e
    cases e1 : readTo L i with
    | none => rw [e1] at e; cases e
    | some qs =>
      rw [e1] at e
      exact (readTo_inv L h i (by omega) qs e1).step (by omega) (by omega) e

/-- Where a text that is a loop for the model is read, nothing fails. -/
theorem readTo_good (L : List UInt8) (h : L.length ≤ 16) (hc : ∀ i, i < L.length → cntL L (L.getD i 0) = 2) (ha : anewL L = L) : ∀ i, i ≤ L.length → ∃ ps, readTo L i = some ps
  | 0, _ => ⟨[], rfl⟩
  | i + 1, hi => by
    obtain ⟨ps, e⟩ := readTo_good L h hc ha i (by omega)
    have hI := readTo_inv L h i (by omega) ps e
    have hfew := hI.few
    have ht : (anewTo L (i + 1)).2 = L.take (i + 1) := by
      rw [← anewTo_take L L.length (i + 1) hi]
      show (anewL L).take (i + 1) = _
      rw [ha]
    rw [take_succ_getD L i (by omega), anewTo] at ht
    simp only at ht
    rw [hI.same, hI.names] at ht
    have ht2 := List.append_cancel_left ht
    simp at ht2
    rw [readTo, e]
    show ∃ qs, stepR ps i (L.getD i 0) = some qs
    have hle : (lts ps.length).idxOf (L.getD i 0) ≤ ps.length := by
      have := List.idxOf_le_length (l := lts ps.length) (a := L.getD i 0)
      rwa [lts_length] at this
    obtain ⟨k, hk⟩ : ∃ k, (lts ps.length).idxOf (L.getD i 0) = k := ⟨_, rfl⟩
    rw [← List.getD_eq_getElem?_getD, hk] at ht2
    rw [hk] at hle
    have hn := congrArg UInt8.toNat ht2
    rw [lt8_nat k (by omega)] at hn
    unfold stepR
    rw [if_neg (by omega), show (L.getD i 0).toNat - 97 = k by omega]
    by_cases h2 : k = ps.length
    · rw [if_pos h2]; exact ⟨_, rfl⟩
    · rw [if_neg h2]
      by_cases h3 : (ps.getD k (0, 0)).2 = (ps.getD k (0, 0)).1
      · rw [if_pos h3]; exact ⟨_, rfl⟩
      · exfalso
        have h4 := hI.cnt k (by omega)
        rw [if_neg h3] at h4
        have h5 := hc i (by omega)
        have h6 : ∀ m, i < m → 3 ≤ cntTo L (lt8 k) m := by
          intro m
          induction m with
          | zero => omega
          | succ m ih =>
            intro hm
            rw [cntTo]
            by_cases e : i = m
            · subst e
              rw [h4, if_pos ht2.symm]
              omega
            · have := ih (by omega)
              omega
        have h7 := h6 L.length (by omega)
        rw [ht2] at h7
        unfold cntL at h5
        omega

/-- Is a text a loop for the model? -/
def goodL (L : List UInt8) : Bool := decide (L.length ≤ 16) && (L.length % 2 == 0) && (List.range L.length).all (fun i => cntL L (L.getD i 0) == 2) && (anewL L == L)

theorem goodL_iff (L : List UInt8) : goodL L = true ↔ L.length ≤ 16 ∧ L.length % 2 = 0 ∧ (∀ i, i < L.length → cntL L (L.getD i 0) = 2) ∧ anewL L = L := by
  simp [goodL, and_assoc]

/-- What holds of a loop. -/
structure LoopP (L : List UInt8) (ps : List (Nat × Nat)) : Prop where
  len : L.length = 2 * ps.length
  few : ps.length ≤ 8
  sign : ∀ j, j < L.length → ∃ k, k < ps.length ∧ L.getD j 0 = lt8 k
  lt : ∀ k, k < ps.length → (ps.getD k (0, 0)).1 < (ps.getD k (0, 0)).2 ∧ (ps.getD k (0, 0)).2 < L.length
  at' : ∀ k, k < ps.length → ∀ j, j < L.length → (L.getD j 0 = lt8 k ↔ j = (ps.getD k (0, 0)).1 ∨ j = (ps.getD k (0, 0)).2)
  anew : anewL L = L

theorem loopL_some {L : List UInt8} {ps : List (Nat × Nat)} (h : loopL L = some ps) : LoopP L ps ∧ goodL L = true := by
  unfold loopL at h
  by_cases h1 : 16 < L.length
  · rw [if_pos h1] at h; cases h
  · rw [if_neg h1] at h
    cases e : readTo L L.length with
    | none => rw [e] at h; cases h
    | some qs =>
      rw [e] at h
      change (if L.length = 2 * qs.length then some qs else none) = some ps at h
      by_cases h2 : L.length = 2 * qs.length
      · rw [if_pos h2] at h
        have h9 := Option.some.inj h
        subst h9
        have hI := readTo_inv L (by omega) _ (Nat.le_refl _) _ e
        have hall := twos_all qs (by rw [hI.sum]; exact h2)
        have han : anewL L = L := by
          have := hI.same
          rwa [List.take_of_length_le (Nat.le_refl _)] at this
        refine ⟨⟨h2, by omega, hI.sign, fun k hk => ?_, fun k hk => (hI.at' k hk).2.2, han⟩, (goodL_iff L).2 ⟨by omega, by omega, fun i hi => ?_, han⟩⟩
        · have := hI.at' k hk
          have := hall k hk
          omega
        · obtain ⟨k, hk, e2⟩ := hI.sign i hi
          rw [e2]
          have := hI.cnt k hk
          rw [if_neg (hall k hk)] at this
          exact this
      · rw [if_neg h2] at h; cases h

theorem sum_cnt {L : List UInt8} {ps : List (Nat × Nat)} (h : InvR L L.length ps) (hc : ∀ i, i < L.length → cntL L (L.getD i 0) = 2) : L.length = 2 * ps.length := by
  have h1 : ∀ k, k < ps.length → (ps.getD k (0, 0)).2 ≠ (ps.getD k (0, 0)).1 := by
    intro k hk e
    have h2 := h.cnt k hk
    rw [if_pos e] at h2
    obtain ⟨f1, f2, f3⟩ := h.at' k hk
    have h3 := hc _ f2
    rw [(f3 _ f2).2 (.inr rfl)] at h3
    unfold cntL at h3
    omega
  have h2 : ∀ qs : List (Nat × Nat), (∀ k, k < qs.length → (qs.getD k (0, 0)).2 ≠ (qs.getD k (0, 0)).1) → twos qs = 2 * qs.length := by
    intro qs
    induction qs with
    | nil => intro _; rfl
    | cons q r ih =>
      intro hq
      have hr := ih (fun k hk => by have := hq (k + 1) (by simpa using hk); simpa using this)
      have h0 := hq 0 (by simp)
      simp at h0
      simp [twos] at hr ⊢
      rw [if_neg h0]
      omega
  rw [← h2 ps h1, h.sum]

theorem loopL_none {L : List UInt8} (h : loopL L = none) : goodL L = false := by
  rw [Bool.eq_false_iff]
  intro hg
  obtain ⟨g1, g2, g3, g4⟩ := (goodL_iff L).1 hg
  obtain ⟨ps, e⟩ := readTo_good L g1 g3 g4 _ (Nat.le_refl _)
  have hI := readTo_inv L g1 _ (Nat.le_refl _) _ e
  unfold loopL at h
  rw [if_neg (by omega), e] at h
  change (if L.length = 2 * ps.length then some ps else none) = none at h
  rw [if_pos (sum_cnt hI g3)] at h
  cases h

end Go.Proofs.Ytnldnjgnpdicnaa

namespace Go.Proofs.Ytnldnjgnpdicnaa
open Go.RowKit
set_option linter.unusedVariables false

def txL (l : List UInt8) : ByteArray := ⟨l.toArray⟩

theorem txL_size (l : List UInt8) : (txL l).size = l.length := by simp [txL, ByteArray.size]

theorem txL_append (a b : List UInt8) : txL a ++ txL b = txL (a ++ b) := by
  apply ByteArray.ext
  rw [ByteArray.data_append]
  simp [txL]

theorem txL_list (t : ByteArray) : txL t.data.toList = t := rfl

theorem txL_get (l : List UInt8) (k : Nat) (h : k < (txL l).size) : (txL l)[k] = l.getD k 0 := by
  have h2 : k < l.length := by rwa [txL_size] at h
  rw [List.getD, List.getElem?_eq_getElem h2]
  rfl

theorem tx_get (t : ByteArray) (k : Nat) (h : k < t.size) : t[k] = t.data.toList.getD k 0 := by
  have h1 : k < t.data.toList.length := by rw [Array.length_toList]; exact h
  rw [List.getD, List.getElem?_eq_getElem h1]
  rfl

theorem tx_len (t : ByteArray) : t.data.toList.length = t.size := Array.length_toList

theorem tx_one (t : ByteArray) (k : Nat) (h : k < t.size) : t.extract k (k + 1) = txL [t.data.toList.getD k 0] := by
  apply ByteArray.ext
  apply Array.toList_inj.1
  rw [ByteArray.data_extract, Array.toList_extract, List.extract_eq_take_drop]
  have h1 : k < t.data.toList.length := by rw [Array.length_toList]; exact h
  rw [List.drop_eq_getElem_cons h1, show k + 1 - k = 1 by omega, List.getD, List.getElem?_eq_getElem h1]
  simp [txL]

theorem txAdd (a b : ByteArray) (h : a.size + b.size ≤ 1000000000) : Op.stringOp .add a b = pure (.string (a ++ b)) := by
  have e : ¬ (((a.size + b.size : Nat) : Int) > IntKind.i64.max) := by
    have : IntKind.i64.max = 9223372036854775807 := by decide +kernel
    omega
  unfold Op.stringOp
  simp only [if_neg e]

theorem abc_one : ∀ k : Fin 16, (⟨#[97, 98, 99, 100, 101, 102, 103, 104, 105, 106, 107, 108, 109, 110, 111, 112]⟩ : ByteArray).extract k.1 (k.1 + 1) = txL [lt8 k.1] := by decide +kernel

end Go.Proofs.Ytnldnjgnpdicnaa

namespace Go.Proofs.Ytnldnjgnpdicnaa
open Go.RowKit
set_option linter.unusedVariables false

theorem txL_inj {a b : List UInt8} (h : txL a = txL b) : a = b := by
  have := congrArg (fun x : ByteArray => x.data.toList) h
  simpa [txL] using this

theorem goodL_long {L : List UInt8} (h : 16 < L.length) : goodL L = false := by
  rw [Bool.eq_false_iff]
  intro e
  have := (goodL_iff L).1 e
  omega

theorem goodL_odd {L : List UInt8} (h : ¬ L.length % 2 = 0) : goodL L = false := by
  rw [Bool.eq_false_iff]
  intro e
  exact h ((goodL_iff L).1 e).2.1

theorem goodL_cnt {L : List UInt8} {k : Nat} (hk : k < L.length) (h : ¬ cntL L (L.getD k 0) = 2) : goodL L = false := by
  rw [Bool.eq_false_iff]
  intro e
  exact h (((goodL_iff L).1 e).2.2.1 k hk)

end Go.Proofs.Ytnldnjgnpdicnaa

namespace Go.Proofs.Ytnldnjgnpdicnaa
open Go.RowKit
set_option linter.unusedVariables false

def pI (ps : List (Nat × Nat)) : List (Int × Int) := ps.map fun p => ((p.1 : Int), (p.2 : Int))

theorem pI_length (ps : List (Nat × Nat)) : (pI ps).length = ps.length := by simp [pI]

theorem pI_get (ps : List (Nat × Nat)) (k : Nat) : (pI ps).getD k (0, 0) = (((ps.getD k (0, 0)).1 : Int), ((ps.getD k (0, 0)).2 : Int)) := by
  unfold pI
  rw [List.getD, List.getD, List.getElem?_map]
  cases ps[k]? with
  | none => rfl
  | some p => rfl

theorem pI_app (ps : List (Nat × Nat)) (a b : Nat) : pI ps ++ [((a : Int), (b : Int))] = pI (ps ++ [(a, b)]) := by simp [pI]

theorem pI_set (ps : List (Nat × Nat)) (k a b : Nat) : (pI ps).set k ((a : Int), (b : Int)) = pI (ps.set k (a, b)) := by simp [pI, List.map_set]

theorem info_chordJ : (Try.prog.info? 52).map (fun i => (i.zero, i.size, i.bytes)) = some (some (.agg #[.int .i64 0, .int .i64 0]), 2, 16) := by kernel_rfl

theorem readTo_none {L : List UInt8} {i : Nat} (h : readTo L i = none) : ∀ j, i ≤ j → readTo L j = none
  | 0, hj => by obtain rfl : i = 0 := by omega
                exact h
  | j + 1, hj => by
    by_cases e : i = j + 1
    · subst e; exact h
    · rw [readTo, readTo_none h j (by omega)]; rfl

theorem loopL_fail {L : List UInt8} {i : Nat} {ps : List (Nat × Nat)} (h : readTo L i = some ps) (hi : i < L.length) (hs : stepR ps i (L.getD i 0) = none) : loopL L = none := by
  have h1 : readTo L (i + 1) = none := by rw [readTo, h]; exact hs
  unfold loopL
  split
  · rfl
  · rw [readTo_none h1 _ (by omega)]; rfl

/-- What loopOf gives. -/
def GivesL (L : List UInt8) (t : ByteArray) (w : World) (e : Ending) (w' : World) : Prop :=
  (∃ ps v, loopL L = some ps ∧ e = .returned (.tuple #[.agg #[v, .string t], .bool true]) ∧ PairsIn 52 w' w.heap.size w'.heap.size v (pI ps) ∧ Below w.heap.size w w') ∨
  (loopL L = none ∧ e = .returned (.tuple #[.agg #[.slice none 0 0, .string ⟨#[]⟩], .bool false]) ∧ Below w.heap.size w w')

end Go.Proofs.Ytnldnjgnpdicnaa

namespace Go.Proofs.Ytnldnjgnpdicnaa
open Go.RowKit
set_option linter.unusedVariables false

end Go.Proofs.Ytnldnjgnpdicnaa

namespace Go.Proofs.Ytnldnjgnpdicnaa
open Go.RowKit
set_option linter.unusedVariables false

/-- The places of a sign among the first so many: the first one and the last one, or -1. -/
def plTo (L : List UInt8) (c : UInt8) : Nat → Int × Int
  | 0 => (-1, -1)
  | i + 1 => if L.getD i 0 = c then (if (plTo L c i).1 < 0 then (i : Int) else (plTo L c i).1, (i : Int)) else plTo L c i

def placesL (L : List UInt8) (c : UInt8) : Int × Int := plTo L c L.length

theorem plTo_at (L : List UInt8) (c : UInt8) (a b : Nat) (hab : a < b) : ∀ i, (∀ j, j < i → (L.getD j 0 = c ↔ j = a ∨ j = b)) → plTo L c i = (if i ≤ a then -1 else (a : Int), if i ≤ a then -1 else if i ≤ b then (a : Int) else b)
  | 0, _ => by simp [plTo]
  | i + 1, h => by
    have ih := plTo_at L c a b hab i fun j hj => h j (by omega)
    have hi := h i (by omega)
    rw [plTo, ih]
    by_cases e : L.getD i 0 = c
    · rw [if_pos e]
      rcases hi.1 e with rfl | rfl
      · rw [Prod.mk.injEq]
        constructor <;> (repeat' split) <;> omega
      · rw [Prod.mk.injEq]
        constructor <;> (repeat' split) <;> omega
    · rw [if_neg e]
      have h1 : i ≠ a := fun e2 => e (hi.2 (.inl e2))
      have h2 : i ≠ b := fun e2 => e (hi.2 (.inr e2))
      rw [Prod.mk.injEq]
      constructor <;> (repeat' split) <;> omega

theorem LoopP.places {L : List UInt8} {ps : List (Nat × Nat)} (h : LoopP L ps) {k : Nat} (hk : k < ps.length) : placesL L (lt8 k) = (((ps.getD k (0, 0)).1 : Int), ((ps.getD k (0, 0)).2 : Int)) := by
  obtain ⟨h1, h2⟩ := h.lt k hk
  unfold placesL
  rw [plTo_at L (lt8 k) _ _ h1 _ (h.at' k hk), if_neg (by omega), if_neg (by omega), if_neg (by omega)]

theorem plTo_bd (L : List UInt8) (c : UInt8) : ∀ i, -1 ≤ (plTo L c i).1 ∧ (plTo L c i).1 ≤ (plTo L c i).2 ∧ (plTo L c i).2 < i
  | 0 => by simp [plTo]
  | i + 1 => by
    have := plTo_bd L c i
    rw [plTo]
    split
    · simp only
      split <;> omega
    · omega

/-- Are the letters x and y interlaced? -/
def lacedP (ps : List (Nat × Nat)) (x y : Nat) : Bool := crossB (ps.getD x (0, 0)).1 (ps.getD x (0, 0)).2 (ps.getD y (0, 0)).1 (ps.getD y (0, 0)).2

theorem LoopP.apart {L : List UInt8} {ps : List (Nat × Nat)} (h : LoopP L ps) {x y : Nat} (hx : x < ps.length) (hy : y < ps.length) (hne : x ≠ y) :
    (ps.getD x (0, 0)).1 ≠ (ps.getD y (0, 0)).1 ∧ (ps.getD x (0, 0)).1 ≠ (ps.getD y (0, 0)).2 ∧ (ps.getD x (0, 0)).2 ≠ (ps.getD y (0, 0)).1 ∧ (ps.getD x (0, 0)).2 ≠ (ps.getD y (0, 0)).2 := by
  obtain ⟨h1, h2⟩ := h.lt x hx
  obtain ⟨h3, h4⟩ := h.lt y hy
  have hf := h.few
  have key : ∀ j, j < L.length → L.getD j 0 = lt8 x → L.getD j 0 = lt8 y → False := fun j hj e1 e2 => hne (lt8_inj (by omega) (by omega) (e1.symm.trans e2))
  have ax := fun j hj => h.at' x hx j hj
  have ay := fun j hj => h.at' y hy j hj
  refine ⟨fun e => key _ (show (ps.getD x (0, 0)).1 < _ by omega) ((ax _ (by omega)).2 (.inl rfl)) ((ay _ (by omega)).2 (.inl e)),
    fun e => key _ (show (ps.getD x (0, 0)).1 < _ by omega) ((ax _ (by omega)).2 (.inl rfl)) ((ay _ (by omega)).2 (.inr e)),
    fun e => key _ (show (ps.getD x (0, 0)).2 < _ by omega) ((ax _ (by omega)).2 (.inr rfl)) ((ay _ (by omega)).2 (.inl e)),
    fun e => key _ (show (ps.getD x (0, 0)).2 < _ by omega) ((ax _ (by omega)).2 (.inr rfl)) ((ay _ (by omega)).2 (.inr e))⟩

/-- How many of two places lie between a and i. -/
def btw (a c d i : Nat) : Nat := (if a < c ∧ c < i then 1 else 0) + (if a < d ∧ d < i then 1 else 0)

theorem btw_step {a c d i : Nat} (hai : a < i) (hcd : c < d) : btw a c d (i + 1) = btw a c d i + if i = c ∨ i = d then 1 else 0 := by
  unfold btw
  (repeat' split) <;> omega

theorem btw_le (a c d i : Nat) : btw a c d i ≤ 2 := by
  unfold btw
  split <;> split <;> omega

theorem btw_cross {a b c d : Nat} (h1 : a < b) (h2 : c < d) (h3 : a ≠ c) (h4 : a ≠ d) (h5 : b ≠ c) (h6 : b ≠ d) : (btw a c d b == 1) = crossB a b c d := by
  unfold btw crossB
  rw [Bool.eq_iff_iff, beq_iff_eq, decide_eq_true_iff]
  split <;> split <;> omega

/-- The number of a letter that a text of one sign names, if it is one of the first n. -/
def letK (a : ByteArray) (n : Nat) : Option Nat := if a.size = 1 then (if 97 ≤ (a.data.toList.getD 0 0).toNat ∧ (a.data.toList.getD 0 0).toNat < 97 + n then some ((a.data.toList.getD 0 0).toNat - 97) else none) else none

theorem letK_some {a : ByteArray} {n k : Nat} (h : letK a n = some k) : a.size = 1 ∧ (a.data.toList.getD 0 0).toNat = 97 + k ∧ k < n := by
  unfold letK at h
  split at h
  · split at h
    · cases h
      omega
    · cases h
  · cases h

theorem letK_none {a : ByteArray} {n : Nat} (h : letK a n = none) : ¬ a.size = 1 ∨ (a.size = 1 ∧ ((a.data.toList.getD 0 0).toNat < 97 ∨ 97 + n ≤ (a.data.toList.getD 0 0).toNat)) := by
  unfold letK at h
  split at h
  · split at h
    · cases h
    · omega
  · exact .inl ‹_›

end Go.Proofs.Ytnldnjgnpdicnaa

namespace Go.Proofs.Ytnldnjgnpdicnaa
open Go.RowKit
set_option linter.unusedVariables false

end Go.Proofs.Ytnldnjgnpdicnaa

namespace Go.Proofs.Ytnldnjgnpdicnaa
open Go.RowKit
set_option linter.unusedVariables false

theorem letters_form {w : World} {B T n cap : Nat} {a0 : Option Addr} {ps : List (Nat × Nat)} (h : PairsIn 52 w B T (.slice a0 n cap) (pI ps)) (hn : 0 < ps.length) : ∃ g, a0 = some ⟨g, 0, none⟩ ∧ n = ps.length := by
  obtain ⟨a1, c1, g, e, ha, _⟩ := h.1.view
  rw [pI_length] at e ha
  cases e
  exact ⟨g, ha hn, rfl⟩

theorem letters_len {w : World} {B T n cap : Nat} {a0 : Option Addr} {ps : List (Nat × Nat)} (h : PairsIn 52 w B T (.slice a0 n cap) (pI ps)) : n = ps.length := by
  obtain ⟨a1, c1, g, e, ha, _⟩ := h.1.view
  rw [pI_length] at e
  cases e
  rfl

theorem letters_cells {w : World} {B T n cap g : Nat} {ps : List (Nat × Nat)} (h : PairsIn 52 w B T (.slice (some ⟨g, 0, none⟩) n cap) (pI ps)) (k : Nat) (hk : k < ps.length) :
    w.cell? ⟨g, k * 2, none⟩ = some (.int .i64 (ps.getD k (0, 0)).1) ∧ w.cell? ⟨g, k * 2 + 1, none⟩ = some (.int .i64 (ps.getD k (0, 0)).2) := by
  have c0 := h.1.cell0 k (by rw [pI_length]; exact hk)
  have c1 := h.1.cell1 k (by rw [pI_length]; exact hk)
  rw [pI_get] at c0 c1
  exact ⟨c0, c1⟩

theorem LoopP.size {t : ByteArray} {ps : List (Nat × Nat)} (h : LoopP t.data.toList ps) : t.size = 2 * ps.length := by rw [← tx_len]; exact h.len

end Go.Proofs.Ytnldnjgnpdicnaa

namespace Go.Proofs.Ytnldnjgnpdicnaa
open Go.RowKit
set_option linter.unusedVariables false

/-- The letters with the indices. -/
def letT (xs : List Int) : List UInt8 := xs.map fun i => lt8 i.toNat

def letV (xs : List Int) (i : Nat) : Int := 97 + xs.getD i 0

theorem letT_nums (xs : List Int) (h : ∀ i, i < xs.length → 0 ≤ xs.getD i 0 ∧ xs.getD i 0 < 16) : strOfNums ((List.range xs.length).map (letV xs)) = txL (letT xs) := by
  unfold strOfNums txL letT
  congr 2
  apply List.ext_getElem (by simp)
  intro i h1 h2
  simp at h1
  have := h i h1
  rw [List.getD, List.getElem?_eq_getElem h1] at this
  simp only [Option.getD_some] at this
  simp only [List.getElem_map, List.getElem_range, letV, List.getD, List.getElem?_eq_getElem h1, Option.getD_some]
  apply lt8_of
  rw [UInt8.toNat_ofNat']
  omega

end Go.Proofs.Ytnldnjgnpdicnaa

namespace Go.Proofs.Ytnldnjgnpdicnaa
open Go.RowKit
set_option linter.unusedVariables false

/-- The letters below n of which c holds. -/
def oneT (c : Nat → Bool) (n : Nat) : List UInt8 := ((List.range n).filter c).map lt8

theorem oneT_sel (c : Nat → Bool) (n : Nat) : letT (selT c n) = oneT c n := by
  unfold letT selT oneT
  rw [List.map_map]
  exact List.map_congr_left fun k _ => by simp

theorem oneT_length (c : Nat → Bool) (n : Nat) : (oneT c n).length ≤ n := by
  have := List.length_filter_le c (List.range n)
  rw [List.length_range] at this
  simpa [oneT] using this

theorem oneT_yes {c : Nat → Bool} {n : Nat} (h : c n = true) : oneT c (n + 1) = oneT c n ++ [lt8 n] := by
  simp [oneT, List.range_succ, List.filter_append, h]

theorem oneT_no {c : Nat → Bool} {n : Nat} (h : c n = false) : oneT c (n + 1) = oneT c n := by
  simp [oneT, List.range_succ, List.filter_append, h]

theorem selT_bd (c : Nat → Bool) (n : Nat) (hn : n ≤ 16) : ∀ i, i < (selT c n).length → 0 ≤ (selT c n).getD i 0 ∧ (selT c n).getD i 0 < 16 := by
  intro i hi
  rw [List.getD, List.getElem?_eq_getElem hi]
  have hm := List.getElem_mem hi
  unfold selT at hm
  rw [List.mem_map] at hm
  obtain ⟨k, hk, e⟩ := hm
  have := List.mem_range.1 ((List.mem_filter.1 hk).1)
  simp only [Option.getD_some]
  rw [show (selT c n)[i] = (k : Int) from e.symm]
  omega

/-- The numbers of a step over the letters: 97 + k as a sign. -/
theorem sign_of (k : Nat) (h : k < 100) : ∃ d : Nat, d = 97 + k ∧ 97 + (k : Int) = (d : Int) ∧ IntKind.i64.wrap (d : Int) = (d : Int) ∧ IntKind.u8.wrap (d : Int) = (d : Int) :=
  ⟨97 + k, rfl, by simp, by rw [IntKind.wrap_i64]; omega, IntWalk.u8_in _ (by omega)⟩

end Go.Proofs.Ytnldnjgnpdicnaa

namespace Go.Proofs.Ytnldnjgnpdicnaa
open Go.RowKit
set_option linter.unusedVariables false

/-- Is each letter interlaced with an even number of others? -/
def evenTo (ps : List (Nat × Nat)) (k : Nat) : Bool := (List.range k).all fun i => (selT (lacedP ps i) ps.length).length % 2 == 0

def evenP (ps : List (Nat × Nat)) : Bool := evenTo ps ps.length

theorem evenTo_succ (ps : List (Nat × Nat)) (k : Nat) : evenTo ps (k + 1) = (evenTo ps k && ((selT (lacedP ps k) ps.length).length % 2 == 0)) := by
  simp [evenTo, List.range_succ]

theorem evenP_no {ps : List (Nat × Nat)} {k : Nat} (hk : k < ps.length) (h : ¬ (selT (lacedP ps k) ps.length).length % 2 = 0) : evenP ps = false := by
  rw [Bool.eq_false_iff]
  intro e
  unfold evenP evenTo at e
  rw [List.all_eq_true] at e
  have := e k (List.mem_range.2 hk)
  exact h (by simpa using this)

theorem one_len (c : Nat → Bool) (n : Nat) : (oneT c n).length = (selT c n).length := by simp [oneT, selT]

end Go.Proofs.Ytnldnjgnpdicnaa

namespace Go.Proofs.Ytnldnjgnpdicnaa
set_option linter.unusedVariables false

/-- Two interlaced letters are in different halves just if ev says so. -/
def Fits (n : Nat) (la ev : Nat → Nat → Bool) (col : Nat → Bool) : Prop := ∀ i j, i < n → j < n → la i j = true → (col i != col j) = ev i j

/-- The half that the half h of a letter leads another one to. -/
def ledI (e : Bool) (h : Int) : Int := if e then -h else h

structure HInv (n : Nat) (la ev : Nat → Nat → Bool) (h : List Int) : Prop where
  len : h.length = n
  val : ∀ i, i < n → h.getD i 0 = -1 ∨ h.getD i 0 = 0 ∨ h.getD i 0 = 1
  ext : (∃ col, Fits n la ev col) → ∃ col, Fits n la ev col ∧ ∀ i, i < n → (h.getD i 0 = 1 → col i = true) ∧ (h.getD i 0 = -1 → col i = false)

theorem setD_get (l : List Int) (x : Int) (i k : Nat) (h : k < l.length) : (l.set k x).getD i 0 = if i = k then x else l.getD i 0 := by
  rw [List.getD, List.getD, List.getElem?_set]
  by_cases e : k = i
  · subst e; simp [h]
  · rw [if_neg e, if_neg (fun e2 => e e2.symm)]

theorem HInv.start (n : Nat) (la ev : Nat → Nat → Bool) : HInv n la ev (List.replicate n 0) := by
  have h0 : ∀ i, (List.replicate n (0 : Int)).getD i 0 = 0 := by
    intro i
    rw [List.getD, List.getElem?_replicate]
    split <;> rfl
  exact ⟨by simp, fun i _ => .inr (.inl (h0 i)), fun ⟨col, hc⟩ => ⟨col, hc, fun i _ => by rw [h0 i]; exact ⟨fun e => by omega, fun e => by omega⟩⟩⟩

theorem HInv.led {n : Nat} {la ev : Nat → Nat → Bool} {h : List Int} (H : HInv n la ev h) {i j : Nat} (hi : i < n) (hj : j < n) (hl : la i j = true) (hi0 : h.getD i 0 ≠ 0) :
    HInv n la ev (h.set j (ledI (ev i j) (h.getD i 0))) ∨ h.getD j 0 ≠ 0 := by
  by_cases hj0 : h.getD j 0 = 0
  · left
    have hjl : j < h.length := by rw [H.len]; exact hj
    have hv := H.val i hi
    refine ⟨by rw [List.length_set]; exact H.len, fun k hk => ?_, fun hex => ?_⟩
    · rw [setD_get h _ k j hjl]
      by_cases e : k = j
      · rw [if_pos e]; unfold ledI; split <;> omega
      · rw [if_neg e]; exact H.val k hk
    · obtain ⟨col, hc, ha⟩ := H.ext hex
      refine ⟨col, hc, fun k hk => ?_⟩
      rw [setD_get h _ k j hjl]
      by_cases e : k = j
      · subst e
        rw [if_pos rfl]
        have h1 := hc i k hi hj hl
        have h2 := ha i hi
        cases hE : ev i k with
        | true =>
          rw [hE] at h1
          unfold ledI
          rw [if_pos rfl]
          constructor
          · intro e
            have := h2.2 (by omega)
            rw [this] at h1
            simpa using h1
          · intro e
            have := h2.1 (by omega)
            rw [this] at h1
            simpa using h1
        | false =>
          rw [hE] at h1
          unfold ledI
          rw [if_neg (by simp)]
          constructor
          · intro e
            have := h2.1 e
            rw [this] at h1
            simpa using h1
          · intro e
            have := h2.2 e
            rw [this] at h1
            simpa using h1
      · rw [if_neg e]; exact ha k hk
  · exact .inr hj0

theorem HInv.bad {n : Nat} {la ev : Nat → Nat → Bool} {h : List Int} (H : HInv n la ev h) {i j : Nat} (hi : i < n) (hj : j < n) (hl : la i j = true) (hi0 : h.getD i 0 ≠ 0) (hj0 : h.getD j 0 ≠ 0)
    (hne : h.getD j 0 ≠ ledI (ev i j) (h.getD i 0)) : ¬ ∃ col, Fits n la ev col := by
  intro hex
  obtain ⟨col, hc, ha⟩ := H.ext hex
  have h1 := hc i j hi hj hl
  have hvi := H.val i hi
  have hvj := H.val j hj
  have ai := ha i hi
  have aj := ha j hj
  unfold ledI at hne
  cases hE : ev i j with
  | true =>
    rw [hE] at h1 hne
    rw [if_pos rfl] at hne
    have h2 : h.getD j 0 = h.getD i 0 := by omega
    rw [h2] at aj
    rcases hvi with e | e | e
    · rw [ai.2 e, aj.2 e] at h1; simp at h1
    · exact hi0 e
    · rw [ai.1 e, aj.1 e] at h1; simp at h1
  | false =>
    rw [hE] at h1 hne
    rw [if_neg (by simp)] at hne
    rcases hvi with e | e | e
    · have h3 : h.getD j 0 = 1 := by omega
      rw [ai.2 e, aj.1 h3] at h1; simp at h1
    · exact hi0 e
    · have h3 : h.getD j 0 = -1 := by omega
      rw [ai.1 e, aj.2 h3] at h1; simp at h1

/-- What the letters in halves lead to is there already. -/
def Closed (n : Nat) (la ev : Nat → Nat → Bool) (h : List Int) : Prop := ∀ i j, i < n → j < n → la i j = true → h.getD i 0 ≠ 0 → h.getD j 0 = ledI (ev i j) (h.getD i 0)

theorem ledI_ne {e : Bool} {h : Int} (hh : h ≠ 0) : ledI e h ≠ 0 := by unfold ledI; split <;> omega

theorem HInv.next {n : Nat} {la ev : Nat → Nat → Bool} {h : List Int} (H : HInv n la ev h) (hsym : ∀ i j, i < n → j < n → la i j = la j i) (hC : Closed n la ev h) {q : Nat} (hq : q < n) (hq0 : h.getD q 0 = 0) : HInv n la ev (h.set q 1) := by
  have hql : q < h.length := by rw [H.len]; exact hq
  refine ⟨by rw [List.length_set]; exact H.len, fun k hk => ?_, fun hex => ?_⟩
  · rw [setD_get h _ k q hql]
    by_cases e : k = q
    · rw [if_pos e]; omega
    · rw [if_neg e]; exact H.val k hk
  · obtain ⟨col, hc, ha⟩ := H.ext hex
    have hboth : ∀ i j, i < n → j < n → la i j = true → (h.getD i 0 = 0 ↔ h.getD j 0 = 0) := by
      intro i j hi hj hl
      constructor
      · intro e
        apply Classical.byContradiction
        intro e2
        have := hC j i hj hi (by rw [← hsym i j hi hj]; exact hl) e2
        rw [e] at this
        exact ledI_ne e2 this.symm
      · intro e
        apply Classical.byContradiction
        intro e2
        have := hC i j hi hj hl e2
        rw [e] at this
        exact ledI_ne e2 this.symm
    cases hcq : col q with
    | true =>
      refine ⟨col, hc, fun k hk => ?_⟩
      rw [setD_get h _ k q hql]
      by_cases e : k = q
      · subst e; rw [if_pos rfl]; exact ⟨fun _ => hcq, fun e => by omega⟩
      · rw [if_neg e]; exact ha k hk
    | false =>
      refine ⟨fun k => if h.getD k 0 = 0 then !col k else col k, fun i j hi hj hl => ?_, fun k hk => ?_⟩
      · have h1 := hc i j hi hj hl
        have h2 := hboth i j hi hj hl
        simp only
        by_cases e : h.getD i 0 = 0
        · rw [if_pos e, if_pos (h2.1 e), ← h1]
          cases col i <;> cases col j <;> rfl
        · rw [if_neg e, if_neg (fun e2 => e (h2.2 e2)), h1]
      · rw [setD_get h _ k q hql]
        simp only
        by_cases e : k = q
        · subst e
          rw [if_pos rfl, if_pos hq0, hcq]
          exact ⟨fun _ => rfl, fun e => by omega⟩
        · rw [if_neg e]
          by_cases e2 : h.getD k 0 = 0
          · rw [e2]; exact ⟨fun e => by omega, fun e => by omega⟩
          · rw [if_neg e2]; exact ha k hk

theorem HInv.done {n : Nat} {la ev : Nat → Nat → Bool} {h : List Int} (H : HInv n la ev h) (hC : Closed n la ev h) (h0 : ∀ q, q < n → h.getD q 0 ≠ 0) : ∃ col, Fits n la ev col := by
  refine ⟨fun k => decide (h.getD k 0 = 1), fun i j hi hj hl => ?_⟩
  have h1 := hC i j hi hj hl (h0 i hi)
  have vi := H.val i hi
  have ni := h0 i hi
  simp only
  unfold ledI at h1
  cases hE : ev i j with
  | true =>
    rw [hE, if_pos rfl] at h1
    rcases vi with e | e | e
    · rw [h1, e]; rfl
    · exact absurd e ni
    · rw [h1, e]; rfl
  | false =>
    rw [hE, if_neg (by simp)] at h1
    rw [h1]
    simp

/-- How many letters are in no half. -/
def zerosI (h : List Int) : Nat := h.count 0

theorem zerosI_set : ∀ (h : List Int) (j : Nat) (x : Int), j < h.length → h.getD j 0 = 0 → x ≠ 0 → zerosI (h.set j x) + 1 = zerosI h
  | [], j, _, hj, _, _ => by simp at hj
  | a :: h, 0, x, _, h0, hx => by
    simp at h0
    subst h0
    unfold zerosI
    rw [List.set_cons_zero, List.count_cons, List.count_cons, if_neg (by simpa using hx), if_pos (by simp)]
  | a :: h, j + 1, x, hj, h0, hx => by
    have := zerosI_set h j x (by simpa using hj) (by simpa using h0) hx
    unfold zerosI at this ⊢
    rw [List.set_cons_succ, List.count_cons, List.count_cons]
    omega

/-- The model's test of one way to put the letters into halves, told by the bits of a number. -/
def fitsM (n : Nat) (la ev : Nat → Nat → Bool) (m : Nat) : Bool := (List.range n).all fun a => (List.range a).all fun b => !(la a b && ((m.testBit a != m.testBit b) != ev a b))

def halvesB (n : Nat) (la ev : Nat → Nat → Bool) : Bool := (List.range (2 ^ n)).any (fitsM n la ev)

theorem fitsM_iff (n : Nat) (la ev : Nat → Nat → Bool) (m : Nat) : fitsM n la ev m = true ↔ ∀ a b, a < n → b < a → la a b = true → (m.testBit a != m.testBit b) = ev a b := by
  simp only [fitsM, List.all_eq_true, List.mem_range]
  constructor
  · intro h a b ha hb hl
    have := h a ha b hb
    rw [hl] at this
    revert this
    cases (m.testBit a != m.testBit b) <;> cases ev a b <;> simp
  · intro h a ha b hb
    cases hl : la a b with
    | false => rfl
    | true => simp [h a b ha hb hl]

def numOf (col : Nat → Bool) : Nat → Nat
  | 0 => 0
  | n + 1 => numOf col n + if col n then 2 ^ n else 0

theorem numOf_lt (col : Nat → Bool) : ∀ n, numOf col n < 2 ^ n
  | 0 => by simp [numOf]
  | n + 1 => by
    have := numOf_lt col n
    rw [numOf, Nat.pow_succ]
    split <;> omega

theorem numOf_bit (col : Nat → Bool) : ∀ n k, k < n → (numOf col n).testBit k = col k
  | 0, _, h => by omega
  | n + 1, k, h => by
    have hl := numOf_lt col n
    rw [numOf]
    by_cases e : k = n
    · subst e
      cases hc : col k with
      | true => rw [if_pos rfl, Nat.add_comm, Nat.testBit_two_pow_add_eq, Nat.testBit_lt_two_pow hl]; rfl
      | false => rw [if_neg (by simp), Nat.add_zero, Nat.testBit_lt_two_pow hl]
    · have ih := numOf_bit col n k (by omega)
      cases hc : col n with
      | true => rw [if_pos rfl, Nat.add_comm, Nat.testBit_two_pow_add_gt (by omega)]; exact ih
      | false => rw [if_neg (by simp), Nat.add_zero]; exact ih

theorem halvesB_iff (n : Nat) (la ev : Nat → Nat → Bool) (hla : ∀ i j, i < n → j < n → la i j = la j i) (hev : ∀ i j, i < n → j < n → ev i j = ev j i) (hno : ∀ i, i < n → la i i = false) :
    halvesB n la ev = true ↔ ∃ col, Fits n la ev col := by
  simp only [halvesB, List.any_eq_true, List.mem_range]
  constructor
  · rintro ⟨m, _, h⟩
    have h := (fitsM_iff n la ev m).1 h
    refine ⟨fun k => m.testBit k, fun i j hi hj hl => ?_⟩
    rcases Nat.lt_trichotomy i j with e | e | e
    · have := h j i hj e (by rw [hla j i hj hi]; exact hl)
      rw [hev i j hi hj, ← this]
      simp only
      cases m.testBit i <;> cases m.testBit j <;> rfl
    · subst e; rw [hno i hi] at hl; cases hl
    · exact h i j hi e hl
  · rintro ⟨col, hc⟩
    refine ⟨numOf col n, numOf_lt col n, (fitsM_iff n la ev _).2 fun a b ha hb hl => ?_⟩
    rw [numOf_bit col n a ha, numOf_bit col n b (by omega)]
    exact hc a b ha (by omega) hl

end Go.Proofs.Ytnldnjgnpdicnaa

namespace Go.Proofs.Ytnldnjgnpdicnaa
open Go.RowKit
set_option linter.unusedVariables false

def bothC (ps : List (Nat × Nat)) (x y k : Nat) : Bool := lacedP ps x k && lacedP ps y k

/-- Is an even number of letters interlaced with both? -/
def evP (ps : List (Nat × Nat)) (x y : Nat) : Bool := (selT (bothC ps x y) ps.length).length % 2 == 0

theorem evP_comm (ps : List (Nat × Nat)) (x y : Nat) : evP ps x y = evP ps y x := by
  unfold evP
  rw [show bothC ps x y = bothC ps y x from funext fun k => by unfold bothC; exact Bool.and_comm _ _]

theorem lacedP_comm (ps : List (Nat × Nat)) (x y : Nat) : lacedP ps x y = lacedP ps y x := by
  unfold lacedP crossB
  rw [decide_eq_decide]
  omega

theorem lacedP_self (ps : List (Nat × Nat)) (x : Nat) : lacedP ps x x = false := by
  unfold lacedP crossB
  exact decide_eq_false (by omega)

end Go.Proofs.Ytnldnjgnpdicnaa

namespace Go.Proofs.Ytnldnjgnpdicnaa
open Go.RowKit
set_option linter.unusedVariables false

def apartB (ps : List (Nat × Nat)) (x y : Nat) : Bool := lacedP ps x y || evP ps x y

/-- Have each two letters that are not interlaced an even number of letters interlaced with both? -/
def apartP (ps : List (Nat × Nat)) : Bool := (List.range ps.length).all fun i => (List.range i).all fun j => apartB ps i j

theorem apartP_no {ps : List (Nat × Nat)} {i j : Nat} (hi : i < ps.length) (hj : j < i) (h : apartB ps i j = false) : apartP ps = false := by
  rw [Bool.eq_false_iff]
  intro e
  simp only [apartP, List.all_eq_true, List.mem_range] at e
  have := e i hi j hj
  rw [h] at this
  cases this

theorem apartP_yes {ps : List (Nat × Nat)} (h : ∀ i, i < ps.length → ∀ j, j < i → apartB ps i j = true) : apartP ps = true := by
  simp only [apartP, List.all_eq_true, List.mem_range]
  exact h

section
variable {P : Program} {a : Act} {w : World} {Q : Exit → Act → World → Prop}

theorem jump_mono {l : Nat} {J J' : Act → World → Prop} (h : ∀ a w, J a w → J' a w) : ∀ e a w, Exit.jump l J Q e a w → Exit.jump l J' Q e a w := by
  intro e a w
  cases e <;> simp only [Exit.jump]
  case goto l' => rintro ⟨h1, h2⟩; exact ⟨h1, h a w h2⟩
  all_goals exact id

/-- A scope that begins with a region and the label to which it jumps back. -/
theorem wp_scope_label1 {r0 X : Code} (l : Nat) (J : Act → World → Prop) (μ : Act → World → Nat) (hf : findLabel (r0.seq ((Code.label l).seq X)) l = some (Code.skip.seq X))
    (first : r0.wp P (Exit.then (fun a w => J a w) (Exit.jump l J Q)) a w)
    (pass : ∀ a w, J a w → X.wp P (Exit.jump l (fun a' w' => J a' w' ∧ μ a' w' < μ a w) Q) a w) : (Code.scope (r0.seq ((Code.label l).seq X))).wp P Q a w := by
  refine wp_scope_jumps l J μ hf ?_ ?_
  · refine wp_seq (wp_mono first ?_)
    intro e a w
    cases e <;> simp only [Exit.then]
    case normal =>
      intro hJ
      exact wp_seq (wp_label (wp_mono (pass a w hJ) (jump_mono fun _ _ h => h.1)))
    all_goals exact id
  · intro a w hJ
    exact wp_seq (wp_skip (pass a w hJ))
end

end Go.Proofs.Ytnldnjgnpdicnaa

namespace Go.Proofs.Ytnldnjgnpdicnaa
open Go.RowKit
set_option linter.unusedVariables false

/-- How many of the first n integers of block g are 0. -/
def zeroAt (w : World) (g i : Nat) : Bool := match w.cell? ⟨g, i, none⟩ with
  | some (.int .i64 x) => x == 0
  | _ => false

def zerosW (w : World) (g n : Nat) : Nat := (List.range n).countP (zeroAt w g)

theorem zerosW_ints {w : World} {g n : Nat} {h : List Int} (hl : h.length = n) (hc : ∀ i, i < n → w.cell? ⟨g, i, none⟩ = some (.int .i64 (h.getD i 0))) : zerosW w g n = zerosI h := by
  have h1 : (List.range n).map (fun i => h.getD i 0) = h := by
    apply List.ext_getElem (by simp [hl])
    intro i h1 h2
    simp [List.getD, List.getElem?_eq_getElem h2]
  unfold zerosW zerosI
  rw [List.count, ← h1, List.countP_map]
  apply List.countP_congr
  intro i hi
  have hi' := List.mem_range.1 hi
  unfold zeroAt
  rw [hc i hi']
  rfl

theorem selT_mem (c : Nat → Bool) (n p : Nat) (hp : p < (selT c n).length) : ∃ j, j < n ∧ c j = true ∧ (selT c n).getD p 0 = (j : Int) := by
  rw [List.getD, List.getElem?_eq_getElem hp]
  have hm := List.getElem_mem hp
  unfold selT at hm
  rw [List.mem_map] at hm
  obtain ⟨k, hk, e⟩ := hm
  have h2 := List.mem_filter.1 hk
  exact ⟨k, List.mem_range.1 h2.1, h2.2, e.symm⟩

theorem selT_all (c : Nat → Bool) (n j : Nat) (hj : j < n) (hc : c j = true) : ∃ p, p < (selT c n).length ∧ (selT c n).getD p 0 = (j : Int) := by
  have hm : (j : Int) ∈ selT c n := by
    unfold selT
    rw [List.mem_map]
    exact ⟨j, List.mem_filter.2 ⟨List.mem_range.2 hj, hc⟩, rfl⟩
  obtain ⟨p, hp, e⟩ := List.mem_iff_getElem.1 hm
  exact ⟨p, hp, by rw [List.getD, List.getElem?_eq_getElem hp]; exact e⟩

set_option maxHeartbeats 1000000 in
theorem indexI_any (g n cap : Nat) (ys : List Int) (x : Int) (w : World) (hl : ys.length = n) (hn : n ≤ 1000) (hc : ∀ i, i < n → w.cell? ⟨g, i, none⟩ = some (.int .i64 (ys.getD i 0))) :
    Calls Try.prog 151 #[.slice (some ⟨g, 0, none⟩) n cap, .int .i64 x] w fun e w' => e = .returned (.int .i64 (if ys.idxOf x < n then (ys.idxOf x : Int) else -1)) ∧ w = w' := by
  have HC := Lib.hid hc
  have hxl : ys.idxOf x ≤ n := by rw [← hl]; exact List.idxOf_le_length
  have HI := Lib.hid (fun k (hk : k < n) => show (ys.getD k 0 = x → ∀ _ : k ≤ ys.idxOf x, ys.idxOf x = k) ∧ (ys.idxOf x = k → ys.getD k 0 = x) from ⟨fun e hle => by
      rw [List.getD, List.getElem?_eq_getElem (by omega)] at e
      simp only [Option.getD_some] at e
      rcases Nat.lt_or_ge k (ys.idxOf x) with h | h
      · exact absurd e (by have := List.not_of_lt_findIdx (xs := ys) (p := (· == x)) h; simpa using this)
      · omega, fun e => by
      have hl2 : ys.idxOf x < ys.length := by omega
      have hl3 := List.getElem_idxOf hl2
      simp only [e] at hl3
      rw [List.getD, List.getElem?_eq_getElem (by omega)]
      exact hl3⟩)
  obtain ⟨q, hx⟩ : ∃ q, ys.idxOf x = q := ⟨_, rfl⟩
  rw [hx] at hxl ⊢
  obtain ⟨v, hv⟩ : ∃ v, (if q < n then (q : Int) else -1) = v := ⟨_, rfl⟩
  rw [hv]
  have HV := Lib.hid hv
  have HX := Lib.hid hx
  clear hc hx hl hv
  go_enter Try.func151, Try.ntmps151
  go_wp2
  go_loopw [8] (fun i wr => ∃ k : Nat, k ≤ n ∧ k ≤ q ∧ i = .int .i64 k ∧ w = wr) (fun i _ => n - (intOf i).toNat)
  case atStart => exact ⟨0, by omega, by omega, rfl, rfl⟩
  case round =>
    obtain ⟨k, hk, hkx, rfl, rfl⟩ := hrel
    by_cases hlt : k < n
    · have cc := HC.out k hlt
      obtain ⟨y, hy⟩ : ∃ y, ys.getD k 0 = y := ⟨_, rfl⟩
      rw [hy] at cc
      have HY := Lib.hid hy
      have k0 : 0 ≤ (k : Int) := by omega
      have k1 : (k : Int) < (n : Int) := by omega
      clear hy
      by_cases hyd : x = y
      · have hxk : q = k := by rw [← HX.out]; exact (HI.out k hlt).1 (by rw [HY.out, hyd]) (by rw [HX.out]; exact hkx)
        subst hyd
        subst hxk
        have HV2 := Lib.hid (show (q : Int) = v by rw [← HV.out, if_pos hlt])
        go_wp2
        go_ret
        exact ⟨by rw [← HV2.out]; rfl, rfl⟩
      · have hxk : q ≠ k := fun e => hyd (by rw [← HY.out, (HI.out k hlt).2 (by rw [HX.out]; exact e)])
        have hne : (x == y) = false := beq_eq_false_iff_ne.2 hyd
        go_wp2
        go_roundw
        case rel => exact ⟨k + 1, by omega, by omega, by go_num, by trivial⟩
        case measure => simp [intOf]; omega
    · obtain rfl : k = n := by omega
      obtain rfl : q = k := by omega
      have HV2 := Lib.hid (show -1 = v by rw [← HV.out, if_neg (by omega)])
      go_wp2
      go_ret
      exact ⟨by rw [← HV2.out]; rfl, rfl⟩

end Go.Proofs.Ytnldnjgnpdicnaa
