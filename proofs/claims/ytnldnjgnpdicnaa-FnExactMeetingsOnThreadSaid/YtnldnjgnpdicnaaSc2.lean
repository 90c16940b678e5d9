/- Meetings on a thread: the model. -/
import Derived.Test.YtnldnjgnpdicnaaSc1
import Derived.Test.YtnldnjgnpdicnaaSc0
import Derived.Test.YtnldnjgnpdicnaaUGs
import Derived.Test.YtnldnjgnpdicnaaV2
namespace Go.Proofs.Ytnldnjgnpdicnaa
open Go.RowKit
set_option linter.unusedVariables false

theorem selT_memS {c : Nat → Bool} {n : Nat} {z : Int} (h : z ∈ selT c n) : ∃ i : Nat, z = (i : Int) ∧ i < n ∧ c i = true := by
  unfold selT at h
  obtain ⟨i, hi, rfl⟩ := List.mem_map.1 h
  obtain ⟨h1, h2⟩ := List.mem_filter.1 hi
  exact ⟨i, rfl, List.mem_range.1 h1, h2⟩

theorem selT_upS (c : Nat → Bool) (n : Nat) : (selT c n).Pairwise (· < ·) := by
  unfold selT
  rw [List.pairwise_map]
  exact (List.Pairwise.sublist List.filter_sublist (List.pairwise_lt_range (n := n))).imp fun h => by omega

/-- What is known of the meetings of thread k with the first j threads, in order. -/
structure MtS (xs : List (Int × Int)) (k j : Nat) (Z : List Int) : Prop where
  perm : Z.Perm (selT (mtS xs k) j)
  sort : SortS (ltS xs k) Z

theorem MtS.mem {xs : List (Int × Int)} {k j : Nat} {Z : List Int} (h : MtS xs k j Z) {z : Int} (hz : z ∈ Z) : ∃ i : Nat, z = (i : Int) ∧ i < j ∧ mtS xs k i = true := selT_memS (h.perm.subset hz)
theorem MtS.len {xs : List (Int × Int)} {k j : Nat} {Z : List Int} (h : MtS xs k j Z) : Z.length ≤ j := by rw [h.perm.length_eq]; exact selT_length _ _
theorem MtS.nodup {xs : List (Int × Int)} {k j : Nat} {Z : List Int} (h : MtS xs k j Z) : Z.Nodup :=
  h.perm.nodup_iff.2 ((selT_upS _ _).imp fun e => by omega)

theorem MtS.ord {xs : List (Int × Int)} (hg : goodT xs) {k j : Nat} (hk : k < xs.length) (hj : j ≤ xs.length) : OrdS (selT (mtS xs k) j) (ltS xs k) (cfS xs k) :=
  ordS xs k _ fun z hz => by
    obtain ⟨i, rfl, hi, hm⟩ := selT_memS hz
    rw [Int.toNat_natCast]
    exact (ex_boundsS hg hk (by omega) hm).2.2

theorem MtS.one {xs : List (Int × Int)} (hg : goodT xs) {k j : Nat} (hk : k < xs.length) (hj : j ≤ xs.length) {Z Z' : List Int} (h : MtS xs k j Z) (h' : MtS xs k j Z') : Z = Z' :=
  sort_unique (MtS.ord hg hk hj) (h.perm.trans h'.perm.symm) h.sort h'.sort (fun x hx => h.perm.subset hx) h.nodup

/-- The next thread is put where the search left off. -/
theorem MtS.put {xs : List (Int × Int)} (hg : goodT xs) {k j at' : Nat} (hk : k < xs.length) (hj : j < xs.length) {Z : List Int} (h : MtS xs k j Z) (hm : mtS xs k j = true) (h2 : ∀ z ∈ Z.drop at', ltS xs k (j : Int) z = true)
    (h1 : at' = 0 ∨ (0 < at' ∧ at' ≤ Z.length ∧ ltS xs k (Z.getD (at' - 1) 0) (j : Int) = true)) : MtS xs k (j + 1) (Z.take at' ++ [(j : Int)] ++ Z.drop at') := by
  have hs : selT (mtS xs k) (j + 1) = selT (mtS xs k) j ++ [(j : Int)] := (selT_yes _ _ hm).symm
  refine ⟨?_, ?_⟩
  · rw [hs]
    have := List.perm_middle (a := (j : Int)) (l₁ := Z.take at') (l₂ := Z.drop at')
    rw [List.take_append_drop] at this
    rw [List.append_assoc, List.singleton_append]
    exact (this.trans (h.perm.cons _)).trans (List.perm_append_singleton _ _).symm
  · rw [List.append_assoc, List.singleton_append]
    refine sort_insert (by rw [List.take_append_drop]; exact h.sort) ?_ h2
    rcases h1 with rfl | ⟨h0, hl, hL⟩
    · simp
    · have O := MtS.ord hg hk (j := j + 1) (by omega)
      obtain ⟨q, rfl⟩ : ∃ q, at' = q + 1 := ⟨at' - 1, by omega⟩
      rw [Nat.add_sub_cancel] at hL
      have ht : Z.take (q + 1) = Z.take q ++ [Z.getD q 0] := by
        rw [List.take_succ_eq_append_getElem (by omega)]
        simp [List.getD, (by omega : q < Z.length)]
      rw [ht]
      have hsub : ∀ y ∈ Z.take q ++ [Z.getD q 0], y ∈ selT (mtS xs k) (j + 1) := fun y hy => by
        rw [← ht] at hy
        rw [hs]
        exact List.mem_append_left _ (h.perm.subset (List.mem_of_mem_take hy))
      refine sort_ahead O ?_ hsub (by rw [hs]; simp) hL
      rw [← ht]
      exact List.Pairwise.sublist (List.take_sublist _ _) h.sort

/-- There is such a list. -/
theorem MtS.ex {xs : List (Int × Int)} (hg : goodT xs) {k : Nat} (hk : k < xs.length) : ∀ j, j ≤ xs.length → ∃ Z, MtS xs k j Z
  | 0, _ => ⟨[], ⟨by rw [selT_zero], by unfold SortS; simp⟩⟩
  | j + 1, hj => by
    obtain ⟨Z, hZ⟩ := MtS.ex hg hk j (by omega)
    cases hm : mtS xs k j with
    | false => exact ⟨Z, ⟨by rw [← selT_no _ _ hm]; exact hZ.perm, hZ.sort⟩⟩
    | true =>
      have go : ∀ t, t ≤ Z.length → (∀ z ∈ Z.drop t, ltS xs k (j : Int) z = true) → ∃ t, t ≤ Z.length ∧ (∀ z ∈ Z.drop t, ltS xs k (j : Int) z = true) ∧ (t = 0 ∨ (0 < t ∧ t ≤ Z.length ∧ ltS xs k (Z.getD (t - 1) 0) (j : Int) = true)) := by
        intro t
        induction t with
        | zero => exact fun h1 h2 => ⟨0, h1, h2, .inl rfl⟩
        | succ t ih =>
          intro h1 h2
          cases hL : ltS xs k (Z.getD t 0) (j : Int) with
          | true => exact ⟨t + 1, h1, h2, .inr ⟨by omega, h1, by rw [Nat.add_sub_cancel]; exact hL⟩⟩
          | false =>
            refine ih (by omega) fun z hz => ?_
            rw [List.drop_eq_getElem_cons (by omega)] at hz
            rcases List.mem_cons.1 hz with rfl | hz
            · have O := MtS.ord hg hk (j := j + 1) (by omega)
              have e : Z.getD t 0 = Z[t] := by simp [List.getD, (by omega : t < Z.length)]
              rw [e] at hL
              have hmem : Z[t] ∈ selT (mtS xs k) j := hZ.perm.subset (List.getElem_mem _)
              obtain ⟨i, hi, hij, _⟩ := selT_memS hmem
              have hs : selT (mtS xs k) (j + 1) = selT (mtS xs k) j ++ [(j : Int)] := (selT_yes _ _ hm).symm
              have := O.tot Z[t] (by rw [hs]; exact List.mem_append_left _ hmem) (j : Int) (by rw [hs]; simp) (by rw [hi]; omega)
              rw [hL] at this
              cases hb : ltS xs k (j : Int) Z[t] with
              | true => rfl
              | false => rw [hb] at this; cases this
            · exact h2 z hz
      obtain ⟨t, h1, h2, h3⟩ := go Z.length (Nat.le_refl _) (by simp)
      exact ⟨_, hZ.put hg hk (by omega) hm h2 h3⟩
end Go.Proofs.Ytnldnjgnpdicnaa
