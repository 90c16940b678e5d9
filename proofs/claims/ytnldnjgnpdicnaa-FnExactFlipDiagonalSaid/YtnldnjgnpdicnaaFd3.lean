/- A diagonal is flipped: what both sides tell is one. -/
import Derived.Test.YtnldnjgnpdicnaaZE
import Derived.Test.YtnldnjgnpdicnaaRM
import Derived.Test.YtnldnjgnpdicnaaAT
import Derived.Test.YtnldnjgnpdicnaaZY
namespace Go.Proofs.Ytnldnjgnpdicnaa
open Go.RowKit
set_option linter.unusedVariables false

theorem allP_none (xs : List (Int × Int)) (h : ∀ i j, i < j → j < xs.length → crossP (xs.getD i (0, 0)) (xs.getD j (0, 0)) = false) (k : Nat) : allP xs k = [] := by
  have row : ∀ i m, m ≤ xs.length → rowP xs i m = [] := by
    intro i m
    induction m with
    | zero => intro _; rfl
    | succ m ih =>
      intro hm
      rw [rowP, ih (by omega), if_neg]
      · rfl
      · rintro ⟨h1, h2⟩
        rw [h i m h1 (by omega)] at h2
        cases h2
  induction k with
  | zero => rfl
  | succ k ih => rw [allP, ih, row k _ (Nat.le_refl _)]; rfl

theorem getD_at {α : Type} (xs : List α) (z : α) (i : Nat) (h : i < xs.length) : xs.getD i z = xs[i] := by
  rw [List.getD_eq_getElem?_getD, List.getElem?_eq_getElem h]; rfl

theorem plane_none {xs : List (Int × Int)} (h : xs.Pairwise Apart) (k : Nat) : allP xs k = [] := allP_none xs (fun i j hij hj => by
  rw [getD_at _ _ _ (by omega), getD_at _ _ _ hj]
  exact ((List.pairwise_iff_getElem.1 h) i j (by omega) hj hij).2) k

theorem good_of {p : Int} {xs : List (Int × Int)} (hp : 3 ≤ p ∧ p ≤ 60) (hl : xs.length ≤ 40) (hs : SortedC xs) (hm : ∀ c ∈ xs, 0 ≤ c.1 ∧ c.1 < c.2 ∧ c.2 < p) : goodC p xs := by
  refine ⟨hp, hl, fun k hk => ⟨?_, fun h0 => ?_⟩⟩
  · rw [getD_at _ _ _ hk]
    exact hm _ (List.getElem_mem _)
  · rw [getD_at _ _ _ hk, getD_at _ _ _ (by omega)]
    exact (List.pairwise_iff_getElem.1 hs) (k - 1) k (by omega) hk (by omega)

theorem sorted_nodup' {xs : List (Int × Int)} (h : SortedC xs) : xs.Nodup := by
  refine h.imp ?_
  intro a b hab e
  exact lessC_irrefl a (by rw [← e] at hab; exact hab)

theorem good_sorted' {p : Int} {xs : List (Int × Int)} (hg : goodC p xs) : SortedC xs := by
  unfold SortedC
  rw [List.pairwise_iff_getElem]
  intro i j hi hj hij
  have h := less_up hg (j - i - 1) i (by omega)
  rw [show i + (j - i - 1) + 1 = j by omega, getD_at _ _ _ hi, getD_at _ _ _ hj] at h
  exact h

theorem tri_facts {n : Nat} {xs : List (Int × Int)} (ht : triB n xs = true) : allP xs xs.length = [] ∧ xs.length + 3 = n ∧ ∀ d ∈ xs, Diag n d := by
  unfold triB at ht
  rw [Bool.and_eq_true, Bool.and_eq_true, beq_iff_eq, beq_iff_eq] at ht
  obtain ⟨⟨h1, h2⟩, h3⟩ := ht
  refine ⟨List.eq_nil_of_length_eq_zero (by omega), by omega, fun d hd => ?_⟩
  have h4 : (xs.any fun c => !diagC n c) = false := by simpa using h3
  rw [List.any_eq_false] at h4
  have h5 := h4 d hd
  have h6 : diagC n d = true := by simpa using h5
  unfold diagC at h6
  have := of_decide_eq_true h6
  exact ⟨by omega, by omega⟩

theorem putC_same {xs rest : List (Int × Int)} {k : Nat} {c f : Int × Int} (hk : k < xs.length) (hx : xs = xs.take k ++ c :: xs.drop (k + 1)) (hr : rest = xs.take k ++ xs.drop (k + 1)) (hs : SortedC rest) (hf : f ∉ rest) :
    putC rest f = sortL (xs.set k f) := by
  have e1 : xs.set k f = xs.take k ++ f :: xs.drop (k + 1) := by rw [List.set_eq_take_append_cons_drop, if_pos hk]
  have hnd : (xs.set k f).Nodup := by
    rw [e1]
    have h1 : rest.Nodup := sorted_nodup' hs
    rw [hr] at h1 hf
    have : (f :: (xs.take k ++ xs.drop (k + 1))).Nodup := List.nodup_cons.2 ⟨hf, h1⟩
    exact this.perm (List.perm_middle.symm)
  have hput : putC rest f = putAll rest [f] := rfl
  refine SortedC.ext (by rw [hput]; exact putAll_sorted _ _ hs) (sortL_sorted _ hnd) fun x => ?_
  rw [hput, mem_putAll, mem_sortL, e1, hr]
  simp
  constructor
  · rintro ((h | h) | h)
    · exact .inl h
    · exact .inr (.inr h)
    · exact .inr (.inl h)
  · rintro (h | h | h)
    · exact .inl (.inl h)
    · exact .inr h
    · exact .inl (.inr h)

theorem whole_bounds (n : Nat) {z : Int} (h : z ∈ selT (fun _ => true) n) : 0 ≤ z ∧ z < n := by
  unfold selT at h
  rw [List.mem_map] at h
  obtain ⟨i, hi, rfl⟩ := h
  have := (List.mem_filter.1 hi).1
  rw [List.mem_range] at this
  omega

theorem whole_up (n : Nat) : (selT (fun _ => true) n).Pairwise (· < ·) := by
  unfold selT
  rw [List.pairwise_map]
  exact (List.Pairwise.sublist List.filter_sublist (List.pairwise_lt_range (n := n))).imp fun h => by omega

theorem whole_len (n : Nat) : (selT (fun _ => true) n).length = n := by
  unfold selT
  rw [List.length_map, List.filter_eq_self.2 (fun _ _ => rfl), List.length_range]

/-- All that both sides want to know. -/
theorem flip_all {n : Nat} {xs rest : List (Int × Int)} (hg : goodC n xs) (ht : triB n xs = true) {k : Nat} (hk : k < xs.length) {x y : Int} (hxy : xs.getD k (0, 0) = (x, y)) (hr : rest = xs.take k ++ xs.drop (k + 1)) :
    ∃ a b d e f g u v : Int, (a < b ∧ b < d ∧ d < e) ∧ [a, b, d, e] ∈ regL n rest ∧ (∀ S ∈ regL n rest, bothR (x, y) S = true → S = [a, b, d, e]) ∧ bothR (x, y) [a, b, d, e] = true ∧ (∀ S ∈ regL n xs, bothR (x, y) S = true → ∃ p ∈ S, p ≠ x ∧ p ≠ y) ∧
      (((x = a ∧ y = d) ∧ f = b ∧ g = e) ∨ ((x = b ∧ y = e) ∧ f = a ∧ g = d)) ∧ ((regL n xs).filter (bothR (x, y))).map (crnR (x, y)) = [u, v] ∧ min u v = f ∧ max u v = g ∧
      putC rest (f, g) = sortL (xs.set k (f, g)) ∧ (f, g) ∉ rest ∧ goodC n rest ∧ allP rest rest.length = [] ∧ (0 ≤ a ∧ e < n) := by
  obtain ⟨hpl, hl3, hdi⟩ := tri_facts ht
  have hP := plane_of_good hg hpl
  have hx : xs = xs.take k ++ (x, y) :: xs.drop (k + 1) := by
    have e1 : xs[k] = (x, y) := by rw [← hxy, getD_at _ _ _ hk]
    rw [← e1]
    rw [← List.drop_eq_getElem_cons hk, List.take_append_drop]
  have hmem : ∀ d ∈ xs, 0 ≤ d.1 ∧ d.1 < d.2 ∧ d.2 < n := fun d hd => good_at hg hd
  have hW : Nb n [] (selT (fun _ => true) n) := nb_whole _ n (fun z => ⟨fun hz => whole_bounds n hz, fun hz => whole_mem n z hz.1 hz.2⟩) (whole_up n)
  have hWl : (selT (fun _ => true) n).length = n := whole_len n
  have hb : ∀ d ∈ xs, bothR d (selT (fun _ => true) n) = true := fun d hd => (bothR_iff _ _).2 ⟨whole_mem n _ (hmem d hd).1 (by have := hmem d hd; omega), whole_mem n _ (by have := hmem d hd; omega) (hmem d hd).2.2⟩
  obtain ⟨a, b, d, e, hord, hin, hone, hboth, hthird, hcase⟩ := flip_facts hW hWl (by have := hg.1; omega) hx hP.1 hP.2 hb hdi hl3 (regL_perm n xs)
  rw [← hr] at hin hone
  have hrs : rest.Sublist xs := by rw [hr]; conv => rhs; rw [hx]
                                   exact (List.sublist_cons_self _ _).append_left _
  have hsort : SortedC rest := (good_sorted' hg).sublist hrs
  have hgr : goodC n rest := good_of hg.1 (Nat.le_trans hrs.length_le hg.2.1) hsort fun c hc => hmem c (hrs.subset hc)
  have hplr : allP rest rest.length = [] := plane_none (hP.2.sublist hrs) _
  have hsub : ∀ z ∈ [a, b, d, e], z ∈ selT (fun _ => true) n := fun z hz => (regs_sub rest _ [selT (fun _ => true) n] (fun R hR => by simp at hR; rw [hR]; exact List.Sublist.refl _) _ hin).subset hz
  have ha := whole_bounds n (hsub a (by simp))
  have he := whole_bounds n (hsub e (by simp))
  have hin' : [a, b, d, e] ∈ regL n rest := (regL_perm n rest).mem_iff.2 hin
  have hone' : ∀ S ∈ regL n rest, bothR (x, y) S = true → S = [a, b, d, e] := fun S hS => hone S ((regL_perm n rest).mem_iff.1 hS)
  -- the other diagonal crosses the chord
  have new : ∀ f g : Int, crossP (x, y) (f, g) = true → (f, g) ∉ rest := by
    intro f g hcr hm
    rw [hx] at hP
    obtain ⟨_, q2, q3⟩ := List.pairwise_append.1 hP.2
    have q4 := (List.pairwise_cons.1 q2).1
    rw [hr] at hm
    rcases List.mem_append.1 hm with h | h
    · have := (q3 _ h (x, y) (by simp)).symm.2
      rw [hcr] at this; cases this
    · have := (q4 _ h).2
      rw [hcr] at this; cases this
  rcases hcase with ⟨hc, u, v, hm, huv⟩ | ⟨hc, u, v, hm, huv⟩
  · obtain ⟨rfl, rfl⟩ := Prod.mk.injEq .. ▸ hc
    have hn := new b e (by unfold crossP crossB; exact decide_eq_true (by simp only; omega))
    exact ⟨_, b, _, e, b, e, u, v, hord, hin', hone', hboth, hthird, .inl ⟨⟨rfl, rfl⟩, rfl, rfl⟩, hm, by omega, by omega, putC_same hk hx hr hsort hn, hn, hgr, hplr, by omega, by omega⟩
  · obtain ⟨rfl, rfl⟩ := Prod.mk.injEq .. ▸ hc
    have hn := new a d (by unfold crossP crossB; exact decide_eq_true (by simp only; omega))
    exact ⟨a, _, d, _, a, d, u, v, hord, hin', hone', hboth, hthird, .inr ⟨⟨rfl, rfl⟩, rfl, rfl⟩, hm, by omega, by omega, putC_same hk hx hr hsort hn, hn, hgr, hplr, by omega, by omega⟩
theorem sel_rows (P : List Int → Bool) (L : List (List Int)) (f : List Int → Int) : (selT (fun k => P (L.getD k [])) L.length).map (fun q => f (L.getD q.toNat [])) = (L.filter P).map f := by
  have e : (List.range L.length).map (fun k => L.getD k []) = L := by
    refine List.ext_getElem (by simp) fun i h1 h2 => ?_
    rw [List.getElem_map, List.getElem_range, getD_at _ _ _ h2]
  unfold selT
  conv => rhs; rw [← e, List.filter_map, List.map_map]
  rw [List.map_map]
  exact List.map_congr_left fun k _ => by simp

end Go.Proofs.Ytnldnjgnpdicnaa
