/- Ranks of loops. Nothing of the program. -/
import Derived.Test.YtpcebcgmbngababJ1
import Derived.Test.YtpcebcgmbngababJC
namespace Go.Proofs.Ytpcebcgmbngabab

/-- Signs told, letters that are there once, letters told, the rank that is left. -/
structure RkS where
  out : List UInt8
  op : List UInt8
  nx : Nat
  r : Nat

def RkS.ways (n : Nat) (S : RkS) : Nat := waysN (S.op.length - 1) (n - S.nx)

def rankStep (n : Nat) (S : RkS) : RkS :=
  if S.r / S.ways n < S.op.length then ⟨S.out ++ [S.op.getD (S.r / S.ways n) 0], S.op.eraseIdx (S.r / S.ways n), S.nx, S.r - S.r / S.ways n * S.ways n⟩
  else ⟨S.out ++ [lt8 S.nx], S.op ++ [lt8 S.nx], S.nx + 1, S.r - S.op.length * S.ways n⟩

def rankTo (n r : Nat) : Nat → RkS
  | 0 => ⟨[], [], 0, r⟩
  | i + 1 => rankStep n (rankTo n r i)

def rankedL (n r : Nat) : List UInt8 := (rankTo n r (2 * n)).out

structure RkI (n i : Nat) (S : RkS) : Prop where
  out : S.out.length = i
  two : i + S.op.length = 2 * S.nx
  nx : S.nx ≤ n
  op : S.op.length ≤ S.nx
  r : S.r < waysN S.op.length (n - S.nx)

theorem RkI.start (n r : Nat) (h : r < waysN 0 n) : RkI n 0 ⟨[], [], 0, r⟩ := ⟨rfl, rfl, by simp, by simp, by simpa using h⟩

theorem RkI.step {n i : Nat} {S : RkS} (h : RkI n i S) (hi : i < 2 * n) : RkI n (i + 1) (rankStep n S) := by
  obtain ⟨h1, h2, h3, h4, h5⟩ := h
  have hw := waysN_pos (S.op.length - 1) (n - S.nx)
  unfold rankStep RkS.ways
  by_cases hk : S.r / waysN (S.op.length - 1) (n - S.nx) < S.op.length
  · rw [if_pos hk]
    have hl := List.length_eraseIdx_of_lt hk
    have hpos : 0 < S.op.length := Nat.lt_of_le_of_lt (Nat.zero_le _) hk
    refine ⟨by simp [h1], by simp only; omega, h3, by simp only; omega, ?_⟩
    simp only
    rw [hl]
    have := Nat.mod_lt S.r hw
    rw [Nat.mod_eq_sub_div_mul] at this
    exact this
  · rw [if_neg hk]
    have hge : S.op.length * waysN (S.op.length - 1) (n - S.nx) ≤ S.r := (Nat.le_div_iff_mul_le hw).1 (Nat.le_of_not_lt hk)
    have hst : waysN S.op.length (n - S.nx) = _ := waysN_step S.op.length (n - S.nx) (by omega)
    have hl : 0 < n - S.nx := by
      apply Nat.pos_of_ne_zero
      intro e
      rw [e] at hst h5 hge
      simp only [Nat.lt_irrefl, if_false] at hst
      split at hst <;> omega
    rw [if_pos hl] at hst
    refine ⟨by simp [h1], by simp; omega, by simp only; omega, by simp; omega, ?_⟩
    simp only [List.length_append, List.length_singleton]
    rw [show n - (S.nx + 1) = n - S.nx - 1 by omega]
    by_cases h0 : 0 < S.op.length
    · rw [if_pos h0] at hst
      omega
    · have e0 : S.op.length = 0 := by omega
      rw [if_neg h0] at hst
      rw [e0] at hst h5 ⊢
      omega

theorem rankTo_inv (n r : Nat) (h : r < waysN 0 n) : ∀ i, i ≤ 2 * n → RkI n i (rankTo n r i)
  | 0, _ => RkI.start n r h
  | i + 1, hi => (rankTo_inv n r h i (by omega)).step (by omega)

/-- How many loops come before: the sum of what is passed by. -/
structure RoS where
  op : List UInt8
  nx : Nat
  r : Nat

def roStep (n : Nat) (S : RoS) (c : UInt8) : RoS :=
  if S.op.idxOf c < S.op.length then ⟨S.op.eraseIdx (S.op.idxOf c), S.nx, S.r + S.op.idxOf c * waysN (S.op.length - 1) (n - S.nx)⟩
  else ⟨S.op ++ [c], S.nx + 1, S.r + S.op.length * waysN (S.op.length - 1) (n - S.nx)⟩

def roTo (L : List UInt8) : Nat → RoS
  | 0 => ⟨[], 0, 0⟩
  | i + 1 => roStep (L.length / 2) (roTo L i) (L.getD i 0)

def rankL (L : List UInt8) : Nat := (roTo L L.length).r

structure RoI (L : List UInt8) (i : Nat) (S : RoS) : Prop where
  two : i + S.op.length = 2 * S.nx
  nodup : S.op.Nodup
  once : ∀ c, c ∈ S.op ↔ cntTo L c i % 2 = 1
  r : S.r ≤ i * 1000000000
  ge : S.nx ≤ i

theorem nodup_sub {l m : List UInt8} (h : l.Nodup) (hs : ∀ c, c ∈ l → c ∈ m) : l.length ≤ m.length := by
  induction l generalizing m with
  | nil => simp
  | cons x r ih =>
    have hx := hs x (by simp)
    rw [List.nodup_cons] at h
    have := ih h.2 (m := m.erase x) (fun c hc => (List.mem_erase_of_ne (fun e => h.1 (by rw [← e]; exact hc))).2 (hs c (by simp [hc])))
    rw [List.length_erase_of_mem hx] at this
    have := List.length_pos_of_mem hx
    simp; omega

theorem cntTo_mono (L : List UInt8) (c : UInt8) (i : Nat) : ∀ j, i ≤ j → cntTo L c i ≤ cntTo L c j
  | 0, h => by obtain rfl : i = 0 := by omega
               exact Nat.le_refl _
  | j + 1, h => by
    by_cases e : i = j + 1
    · subst e; exact Nat.le_refl _
    · have := cntTo_mono L c i j (by omega)
      rw [cntTo]; omega

theorem cntTo_later (L : List UInt8) (c : UInt8) (i : Nat) : ∀ j, j ≤ L.length → cntTo L c i < cntTo L c j → c ∈ (L.drop i)
  | 0, _, h => by rw [cntTo] at h; omega
  | j + 1, hj, h => by
    rw [cntTo] at h
    by_cases e : L.getD j 0 = c
    · by_cases hij : i ≤ j
      · rw [← e, List.getD, List.getElem?_eq_getElem (by omega)]
        simp only [Option.getD_some]
        rw [List.mem_iff_getElem]
        exact ⟨j - i, by simp; omega, by simp; congr 1; omega⟩
      · have := cntTo_mono L c (j + 1) i (by omega)
        rw [cntTo] at this
        omega
    · rw [if_neg e] at h
      exact cntTo_later L c i j (by omega) (by omega)

theorem RoI.few {L : List UInt8} {i : Nat} {S : RoS} (h : RoI L i S) (hi : i ≤ L.length) (hc : ∀ c, c ∈ S.op → cntL L c = 2) : S.op.length ≤ L.length - i := by
  have := nodup_sub h.nodup (m := L.drop i) (fun c hm => by
    have h1 := (h.once c).1 hm
    have h2 := hc c hm
    unfold cntL at h2
    have h3 := cntTo_mono L c i L.length hi
    exact cntTo_later L c i L.length (Nat.le_refl _) (by omega))
  simpa using this

theorem RoI.two' {L : List UInt8} {i : Nat} {S : RoS} (h : RoI L i S) (hi : i ≤ L.length) (hc : ∀ j, j < L.length → cntL L (L.getD j 0) = 2) : ∀ c, c ∈ S.op → cntL L c = 2 := by
  intro c hm
  have h1 := (h.once c).1 hm
  have h2 : ∃ j, j < i ∧ L.getD j 0 = c := by
    apply Classical.byContradiction
    intro hn
    have := cnt_none L c i (fun j hj e => hn ⟨j, hj, e⟩)
    omega
  obtain ⟨j, hj, rfl⟩ := h2
  exact hc j (by omega)

theorem RoI.step {L : List UInt8} {i : Nat} {S : RoS} (h : RoI L i S) (hi : i < L.length) (h16 : L.length ≤ 16) (hc : ∀ j, j < L.length → cntL L (L.getD j 0) = 2) :
    RoI L (i + 1) (roStep (L.length / 2) S (L.getD i 0)) := by
  have hfew := h.few (by omega) (h.two' (by omega) hc)
  obtain ⟨h1, h2, h3, h4, h5⟩ := h
  have hway := waysN_le (S.op.length - 1) (L.length / 2 - S.nx) (by omega)
  unfold roStep
  by_cases hx : L.getD i 0 ∈ S.op
  · have hlt := List.idxOf_lt_length_iff.2 hx
    rw [if_pos hlt]
    have hl := List.length_eraseIdx_of_lt hlt
    have he : S.op.eraseIdx (S.op.idxOf (L.getD i 0)) = S.op.erase (L.getD i 0) := by rw [List.erase_eq_eraseIdx_of_idxOf rfl]
    have hm := Nat.mul_le_mul (show S.op.idxOf (L.getD i 0) ≤ 16 by omega) hway
    refine ⟨by simp only; omega, h2.sublist (List.eraseIdx_sublist _ _), fun c => ?_, by simp only; omega, by simp only; omega⟩
    simp only
    rw [he, h2.mem_erase_iff, h3 c, cntTo]
    by_cases e : L.getD i 0 = c
    · have := (h3 (L.getD i 0)).1 hx
      rw [e] at this
      rw [if_pos e]
      constructor
      · rintro ⟨h, _⟩; exact absurd e.symm h
      · intro h; omega
    · rw [if_neg e]
      constructor
      · rintro ⟨_, h⟩; exact h
      · intro h; exact ⟨fun e2 => e e2.symm, h⟩
  · have hge := List.idxOf_eq_length hx
    rw [if_neg (by omega)]
    have hm := Nat.mul_le_mul (show S.op.length ≤ 16 by omega) hway
    refine ⟨by simp only [List.length_append, List.length_singleton]; omega, List.nodup_append.2 ⟨h2, by simp, fun a ha b hb e => hx (by rw [← List.mem_singleton.1 hb, ← e]; exact ha)⟩, fun c => ?_, by simp only; omega, by simp only; omega⟩
    simp only
    rw [List.mem_append, h3 c, cntTo]
    by_cases e : L.getD i 0 = c
    · have h6 : ¬ cntTo L c i % 2 = 1 := fun h => hx (by rw [e]; exact (h3 c).2 h)
      rw [if_pos e]
      constructor
      · intro _; omega
      · intro _; exact .inr (List.mem_singleton.2 e.symm)
    · rw [if_neg e]
      constructor
      · rintro (h | h)
        · exact h
        · exact absurd (List.mem_singleton.1 h).symm e
      · intro h; exact .inl h

theorem roTo_inv (L : List UInt8) (h16 : L.length ≤ 16) (hc : ∀ j, j < L.length → cntL L (L.getD j 0) = 2) : ∀ i, i ≤ L.length → RoI L i (roTo L i)
  | 0, _ => ⟨rfl, by simp [roTo], fun c => by simp [roTo, cntTo], by simp [roTo], by simp [roTo]⟩
  | i + 1, hi => (roTo_inv L h16 hc i (by omega)).step (by omega) h16 hc

end Go.Proofs.Ytpcebcgmbngabab
