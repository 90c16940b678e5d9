/- The region at an arc, as Lean functions. -/
import Derived.Test.YtnldnjgnpdicnaaRL
namespace Go.Proofs.Ytnldnjgnpdicnaa
open Go.RowKit
set_option linter.unusedVariables false

/-- The first of those for which f is least. -/
def minN (f : Nat → Nat) (m : Nat) (t : List Nat) : Nat := t.foldl (fun m x => if f x < f m then x else m) m

theorem minN_stay (f : Nat → Nat) (m : Nat) (t : List Nat) (h2 : ∀ x ∈ t, f m ≤ f x) : minN f m t = m := by
  unfold minN
  induction t with
  | nil => rfl
  | cons x t ih =>
    rw [List.foldl_cons, if_neg (by have := h2 x (by simp); omega)]
    exact ih fun y hy => h2 y (by simp [hy])

theorem minN_find (f : Nat → Nat) (t : List Nat) : ∀ m, (∀ x ∈ m :: t, 2 ≤ f x) → (∃ x ∈ m :: t, f x = 2) → (m :: t).find? (fun x => f x == 2) = some (minN f m t) := by
  induction t with
  | nil =>
    intro m _ he
    obtain ⟨x, hx, h⟩ := he
    simp at hx
    subst hx
    simp [minN, h]
  | cons x t ih =>
    intro m h2 he
    by_cases hm : f m = 2
    · rw [minN_stay f m _ fun y hy => by have := h2 y (by simp at hy ⊢; exact .inr hy); omega]
      simp [hm]
    · have e1 : (m :: x :: t).find? (fun x => f x == 2) = (x :: t).find? (fun x => f x == 2) := by
        rw [List.find?_cons_of_neg (by simpa using hm)]
      rw [e1]
      by_cases hx : f x < f m
      · have e2 : minN f m (x :: t) = minN f x t := by unfold minN; rw [List.foldl_cons, if_pos hx]
        rw [e2]
        refine ih x (fun y hy => h2 y (by simp at hy ⊢; exact .inr hy)) ?_
        obtain ⟨y, hy, h⟩ := he
        rcases List.mem_cons.1 hy with rfl | hy
        · exact absurd h hm
        · exact ⟨y, hy, h⟩
      · have e2 : minN f m (x :: t) = minN f m t := by unfold minN; rw [List.foldl_cons, if_neg hx]
        have hm2 := h2 m (by simp)
        have hx2 : f x ≠ 2 := by omega
        rw [e2, List.find?_cons_of_neg (by simpa using hx2)]
        have h3 := ih m (fun y hy => h2 y (by simp at hy ⊢; rcases hy with h | h; exact .inl h; exact .inr (.inr h))) (by
          obtain ⟨y, hy, h⟩ := he
          rcases List.mem_cons.1 hy with rfl | hy
          · exact absurd h hm
          · rcases List.mem_cons.1 hy with rfl | hy
            · exact absurd h hx2
            · exact ⟨y, by simp [hy], h⟩)
        rwa [List.find?_cons_of_neg (by simpa using hm)] at h3

/-- The chord along an arc. -/
def IsArc (n : Nat) (c : Int × Int) : Prop := 0 ≤ c.1 ∧ c.1 < c.2 ∧ c.2 < n ∧ (c.2 = c.1 + 1 ∨ (c.1 = 0 ∧ c.2 = (n : Int) - 1))

theorem arc_apart {n : Nat} {c d : Int × Int} (hc : IsArc n c) (h0 : 0 ≤ d.1) (h1 : d.1 < d.2) (h2 : d.2 < n) (hne : d ≠ c) : Apart d c := by
  refine ⟨hne, ?_⟩
  obtain ⟨a, b⟩ := c
  obtain ⟨x, y⟩ := d
  obtain ⟨c0, c1, c2, c3⟩ := hc
  unfold crossP crossB
  rw [decide_eq_false_iff_not]
  simp only at *
  omega

theorem whole_both {n : Nat} {c : Int × Int} (hc : IsArc n c) : bothR c (selT (fun _ => true) n) = true := by
  obtain ⟨c0, c1, c2, _⟩ := hc
  exact (bothR_iff _ _).2 ⟨whole_mem n _ c0 (by omega), whole_mem n _ (by omega) c2⟩

theorem good_at {n : Nat} {xs : List (Int × Int)} (hg : goodC n xs) {d : Int × Int} (hd : d ∈ xs) : 0 ≤ d.1 ∧ d.1 < d.2 ∧ d.2 < n := by
  obtain ⟨k, hk, rfl⟩ := List.mem_iff_getElem.1 hd
  have h1 := (hg.2.2 k hk).1
  have h2 := chord_order hg k hk
  rw [List.getD_eq_getElem?_getD, List.getElem?_eq_getElem hk] at h1 h2
  simp only [Option.getD_some] at h1 h2
  omega

/-- No chord along the arc: one region has both its points. -/
theorem arc_one {n : Nat} {xs : List (Int × Int)} (hg : goodC n xs) {c : Int × Int} (hc : IsArc n c) (hn : c ∉ xs) : numR c (regL n xs) = 1 := by
  unfold numR
  rw [(regL_perm n xs).countP_eq]
  have h1 := numR_regs (d := c) hc.2.1 xs [selT (fun _ => true) n] fun d hd => by
    obtain ⟨d0, d1, d2⟩ := good_at hg hd
    exact ⟨d1, arc_apart hc d0 d1 d2 fun e => hn (e ▸ hd)⟩
  unfold numR at h1
  rw [h1]
  simp [whole_both hc]

theorem regs_sub (cs : List (Int × Int)) (W : List Int) : ∀ L : List (List Int), (∀ R ∈ L, R.Sublist W) → ∀ R ∈ regsF L cs, R.Sublist W := by
  induction cs with
  | nil => intro L h; exact h
  | cons c cs ih =>
    intro L h
    rw [regsF_cons]
    refine ih _ fun R hR => ?_
    obtain ⟨S, hS, hRS⟩ := List.mem_flatMap.1 hR
    unfold splitR at hRS
    split at hRS
    · simp at hRS
      rcases hRS with rfl | rfl <;> exact List.filter_sublist.trans (h S hS)
    · simp at hRS
      subst hRS
      exact h _ hS

theorem whole_nodup (n : Nat) : (selT (fun _ => true) n).Nodup := by
  unfold selT
  unfold List.Nodup
  rw [List.pairwise_map]
  exact (List.Pairwise.sublist List.filter_sublist (List.nodup_range (n := n))).imp fun h e => h (by omega)

theorem two_len {R : List Int} {c : Int × Int} (hn : R.Nodup) (hc : c.1 < c.2) (hb : bothR c R = true) (h : ∀ x ∈ R, x = c.1 ∨ x = c.2) : R.length = 2 := by
  have h1 : R.Perm [c.1, c.2] := by
    rw [List.perm_ext_iff_of_nodup hn (by simp; omega)]
    intro x
    obtain ⟨g1, g2⟩ := (bothR_iff _ _).1 hb
    simp
    exact ⟨h x, fun e => by rcases e with rfl | rfl; exact g1; exact g2⟩
  rw [h1.length_eq]
  rfl

theorem keeps_region {R : List Int} (cs : List (Int × Int)) : ∀ L : List (List Int), R ∈ L → (∀ d ∈ cs, bothR d R = false) → R ∈ regsF L cs := by
  induction cs with
  | nil => intro L h _; exact h
  | cons c cs ih =>
    intro L h hb
    rw [regsF_cons]
    refine ih _ (List.mem_flatMap.2 ⟨R, h, ?_⟩) fun d hd => hb d (by simp [hd])
    unfold splitR
    rw [hb c (by simp)]
    simp

/-- A chord along the arc: a region of its two points is there. -/
theorem arc_two {n : Nat} {xs : List (Int × Int)} (hg : goodC n xs) (hpl : allP xs xs.length = []) {c : Int × Int} (hc : IsArc n c) (hm : c ∈ xs) : ∃ R ∈ regL n xs, bothR c R = true ∧ R.length = 2 := by
  obtain ⟨xs1, xs2, hxs⟩ := List.append_of_mem hm
  have hP := plane_of_good hg hpl
  have hpw := hP.2
  rw [hxs, List.pairwise_append, List.pairwise_cons] at hpw
  obtain ⟨_, ⟨hc2, _⟩, hc1⟩ := hpw
  have hall : ∀ d ∈ xs, d.1 < d.2 := hP.1
  have hone : numR c (regsF [selT (fun _ => true) n] xs1) = 1 := by
    rw [numR_regs (d := c) hc.2.1 xs1 _ fun d hd => ⟨hall d (by rw [hxs]; simp [hd]), hc1 d hd c (by simp)⟩]
    simp [numR, whole_both hc]
  obtain ⟨h1, h2⟩ := splitF_first hone
  have hat := numR_at h1
  obtain ⟨R0, hR0⟩ : ∃ R0, (regsF [selT (fun _ => true) n] xs1).getD (firstR c (regsF [selT (fun _ => true) n] xs1)) [] = R0 := ⟨_, rfl⟩
  have hmem : R0 ∈ regsF [selT (fun _ => true) n] xs1 := by rw [← hR0]; exact getD_mem _ _ _ h1
  rw [hR0] at h2 hat
  have hsub := regs_sub xs1 _ [selT (fun _ => true) n] (fun R hR => by simp at hR; subst hR; exact List.Sublist.refl _) R0 hmem
  have hnd : R0.Nodup := (whole_nodup n).sublist hsub
  have hin : ∀ x ∈ R0, 0 ≤ x ∧ x < n := fun x hx => by
    have := hsub.subset hx
    unfold selT at this
    rw [List.mem_map] at this
    obtain ⟨i, hi, rfl⟩ := this
    simp at hi
    omega
  have key : ∀ f : Int → Bool, R0.filter f ∈ splitF (regsF [selT (fun _ => true) n] xs1) c → (f c.1 && f c.2) = true → (∀ x : Int, 0 ≤ x → x < n → f x = true → x = c.1 ∨ x = c.2) → ∃ R ∈ regL n xs, bothR c R = true ∧ R.length = 2 := by
    intro f hf hff hfx
    have hb : bothR c (R0.filter f) = true := by rw [bothR_filter, hat, hff]; rfl
    have ho : ∀ x ∈ R0.filter f, x = c.1 ∨ x = c.2 := fun x hx => by
      obtain ⟨g1, g2⟩ := List.mem_filter.1 hx
      obtain ⟨g3, g4⟩ := hin x g1
      exact hfx x g3 g4 g2
    refine ⟨R0.filter f, (regL_perm n xs).mem_iff.2 ?_, hb, two_len (hnd.sublist List.filter_sublist) hc.2.1 hb ho⟩
    rw [hxs, show regsF [selT (fun _ => true) n] (xs1 ++ c :: xs2) = regsF (splitF (regsF [selT (fun _ => true) n] xs1) c) xs2 by simp [regsF]]
    refine keeps_region xs2 _ hf fun d hd => ?_
    rw [← Bool.not_eq_true]
    intro hbd
    obtain ⟨g1, g2⟩ := (bothR_iff _ _).1 hbd
    have hd1 := hall d (by rw [hxs]; simp [hd])
    have hdne := (hc2 d hd).1
    have e1 := ho _ g1
    have e2 := ho _ g2
    have hcc := hc.2.1
    exact hdne (Prod.ext (by omega) (by omega))
  have hcc := hc
  obtain ⟨c0, c1, c2, c3⟩ := hcc
  rcases c3 with c3 | ⟨c3, c4⟩
  · refine key (inS c) (by rw [h2]; simp) (by simp [inS]; omega) fun x x0 x1 hx => ?_
    simp [inS] at hx
    omega
  · refine key (outS c) (by rw [h2]; simp) (by simp [outS]) fun x x0 x1 hx => ?_
    simp [outS] at hx
    omega

theorem both_len {R : List Int} {c : Int × Int} (hc : c.1 < c.2) (hb : bothR c R = true) : 2 ≤ R.length := by
  obtain ⟨h1, h2⟩ := (bothR_iff _ _).1 hb
  match R, h1, h2 with
  | [], h1, _ => simp at h1
  | [a], h1, h2 => simp at h1 h2; omega
  | a :: b :: t, _, _ => simp

/-- The index of the region at an arc. -/
def arcR (xs : List (Int × Int)) (L : List (List Int)) (c : Int × Int) : Nat := L.findIdx fun R => bothR c R && (!decide (c ∈ xs) || R.length == 2)

theorem arcR_lt {n : Nat} {xs : List (Int × Int)} (hg : goodC n xs) (hpl : allP xs xs.length = []) {c : Int × Int} (hc : IsArc n c) : arcR xs (regL n xs) c < (regL n xs).length := by
  unfold arcR
  rw [List.findIdx_lt_length]
  by_cases hm : c ∈ xs
  · obtain ⟨R, hR, hb, h2⟩ := arc_two hg hpl hc hm
    exact ⟨R, hR, by simp [hb, h2]⟩
  · have h1 := arc_one hg hc hm
    have : 0 < (regL n xs).countP (bothR c) := by unfold numR at h1; omega
    obtain ⟨R, hR, hb⟩ := List.countP_pos_iff.1 this
    exact ⟨R, hR, by simp [hb, hm]⟩

theorem countP_getD {α : Type} (p : α → Bool) (z : α) (L : List α) : ((List.range L.length).filter fun k => p (L.getD k z)).length = L.countP p := by
  induction L with
  | nil => rfl
  | cons a t ih =>
    rw [List.length_cons, List.range_succ_eq_map, List.filter_cons, List.countP_cons]
    have e : ((List.map Nat.succ (List.range t.length)).filter fun k => p ((a :: t).getD k z)).length = t.countP p := by
      rw [← ih, List.filter_map, List.length_map]
      rfl
    split
    · rename_i h
      rw [List.length_cons, e, if_pos (by simpa using h)]
    · rename_i h
      rw [e, if_neg (by simpa using h)]
      rfl

theorem range_find (P : Nat → Bool) (n z : Nat) (hz : z < n) (hP : P z = true) (hb : ∀ j, j < z → P j = false) : (List.range n).find? P = some z := by
  rw [List.find?_range_eq_some]
  exact ⟨hP, List.mem_range.2 hz, fun j hj => by simp [hb j hj]⟩

/-- The indices of the regions with both points, and the first of the least of them. -/
theorem arc_min {n : Nat} {xs : List (Int × Int)} (hg : goodC n xs) (hpl : allP xs xs.length = []) {c : Int × Int} (hc : IsArc n c) :
    ∃ m t, (List.range (regL n xs).length).filter (fun k => bothR c ((regL n xs).getD k [])) = m :: t ∧ minN (fun k => ((regL n xs).getD k []).length) m t = arcR xs (regL n xs) c := by
  have hlt := arcR_lt hg hpl hc
  obtain ⟨L, hL⟩ : ∃ L, regL n xs = L := ⟨_, rfl⟩
  have hat : (bothR c (L.getD (arcR xs L c) []) && (!decide (c ∈ xs) || (L.getD (arcR xs L c) []).length == 2)) = true := by
    rw [hL] at hlt
    have := List.findIdx_getElem (w := hlt)
    rw [List.getD_eq_getElem?_getD, List.getElem?_eq_getElem hlt]
    exact this
  have hbf : ∀ j, j < arcR xs L c → (bothR c (L.getD j []) && (!decide (c ∈ xs) || (L.getD j []).length == 2)) = false := fun j hj => by
    rw [hL] at hlt
    have := List.not_of_lt_findIdx hj
    rw [List.getD_eq_getElem?_getD, List.getElem?_eq_getElem (by omega)]
    simpa using this
  rw [Bool.and_eq_true] at hat
  by_cases hm : c ∈ xs
  · have h2 : ∀ k ∈ (List.range L.length).filter (fun k => bothR c (L.getD k [])), 2 ≤ (L.getD k []).length := fun k hk => both_len hc.2.1 (List.mem_filter.1 hk).2
    rw [hL] at hlt ⊢
    have hz : arcR xs L c ∈ (List.range L.length).filter (fun k => bothR c (L.getD k [])) := List.mem_filter.2 ⟨by simp; exact hlt, hat.1⟩
    have hl2 : (L.getD (arcR xs L c) []).length = 2 := by simpa [hm] using hat.2
    have hf : ((List.range L.length).filter (fun k => bothR c (L.getD k []))).find? (fun k => (L.getD k []).length == 2) = some (arcR xs L c) := by
      rw [List.find?_filter]
      refine range_find _ _ _ hlt (by have h9 := hat.1; simp only [h9, hl2]; first | rfl | decide | simp) fun j hj => ?_
      have := hbf j hj
      simpa [hm] using this
    cases hS : (List.range L.length).filter (fun k => bothR c (L.getD k [])) with
    | nil => rw [hS] at hz; simp at hz
    | cons m t =>
      refine ⟨m, t, rfl, ?_⟩
      rw [hS] at h2 hz hf
      have := minN_find (fun k => (L.getD k []).length) t m h2 ⟨_, hz, hl2⟩
      rw [this] at hf
      simpa using hf
  · have h1 := arc_one hg hc hm
    rw [hL] at hlt h1 ⊢
    unfold numR at h1
    rw [← countP_getD (bothR c) [] L] at h1
    have hz : arcR xs L c ∈ (List.range L.length).filter (fun k => bothR c (L.getD k [])) := List.mem_filter.2 ⟨by simp; exact hlt, hat.1⟩
    obtain ⟨m, hS⟩ := List.length_eq_one_iff.1 h1
    rw [hS] at hz ⊢
    refine ⟨m, [], rfl, ?_⟩
    simp at hz
    rw [hz]
    rfl
end Go.Proofs.Ytnldnjgnpdicnaa
