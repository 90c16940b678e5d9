/- Neighbours among the regions: what two regions share (pure). -/
import Derived.Test.YtpliaenpencocabRM
namespace Go.Proofs.Ytpliaenpencocab
set_option linter.unusedVariables false

/-- A chord of the set has two regions beside it. -/
theorem chord_two {n : Nat} {xs : List (Int × Int)} (hg : goodC n xs) (hpl : allP xs xs.length = []) {c : Int × Int} (hm : c ∈ xs) : numR c (regL n xs) = 2 := by
  obtain ⟨xs1, xs2, hxs⟩ := List.append_of_mem hm
  have hP := plane_of_good hg hpl
  have hpw := hP.2
  rw [hxs, List.pairwise_append, List.pairwise_cons] at hpw
  obtain ⟨_, ⟨hc2, _⟩, hc1⟩ := hpw
  have hall : ∀ d ∈ xs, d.1 < d.2 := hP.1
  have hcc := hall c hm
  obtain ⟨c0, _, c2⟩ := good_at hg hm
  have hw : bothR c (selT (fun _ => true) n) = true := (bothR_iff _ _).2 ⟨whole_mem n _ c0 (by omega), whole_mem n _ (by omega) c2⟩
  unfold numR
  rw [(regL_perm n xs).countP_eq]
  show numR c (regsF [selT (fun _ => true) n] xs) = 2
  rw [hxs, show regsF [selT (fun _ => true) n] (xs1 ++ c :: xs2) = regsF (splitF (regsF [selT (fun _ => true) n] xs1) c) xs2 by simp [regsF]]
  rw [numR_regs (d := c) hcc xs2 _ fun d hd => ⟨hall d (by rw [hxs]; simp [hd]), (hc2 d hd).symm⟩, numR_splitF_own hcc,
    numR_regs (d := c) hcc xs1 _ fun d hd => ⟨hall d (by rw [hxs]; simp [hd]), hc1 d hd c (by simp)⟩]
  simp [numR, hw]

/-- Two regions share a chord's two points, or one point at most. -/
def Shares (cs : List (Int × Int)) (A B : List Int) : Prop :=
  (∃ c ∈ cs, bothR c A = true ∧ bothR c B = true ∧ ∀ x ∈ A, x ∈ B → x = c.1 ∨ x = c.2) ∨ (∀ x ∈ A, x ∈ B → ∀ y ∈ A, y ∈ B → x = y)

theorem Shares.symm {cs : List (Int × Int)} {A B : List Int} (h : Shares cs A B) : Shares cs B A := by
  rcases h with ⟨c, hc, h1, h2, h3⟩ | h
  · exact .inl ⟨c, hc, h2, h1, fun x hx hy => h3 x hy hx⟩
  · exact .inr fun x hx hx2 y hy hy2 => h x hx2 hx y hy2 hy

theorem Shares.more {cs ds : List (Int × Int)} {A B : List Int} (h : Shares cs A B) (hs : ∀ c ∈ cs, c ∈ ds) : Shares ds A B := by
  rcases h with ⟨c, hc, h⟩ | h
  · exact .inl ⟨c, hs c hc, h⟩
  · exact .inr h

/-- A part of a region shares no more. -/
theorem Shares.part {cs : List (Int × Int)} {A B C : List Int} (h : Shares cs A B) (hs : ∀ x ∈ C, x ∈ A) : Shares cs C B := by
  rcases h with ⟨c, hc, h1, h2, h3⟩ | h
  · by_cases hb : bothR c C = true
    · exact .inl ⟨c, hc, hb, h2, fun x hx hy => h3 x (hs x hx) hy⟩
    · refine .inr fun x hx hx2 y hy hy2 => ?_
      have e1 := h3 x (hs x hx) hx2
      have e2 := h3 y (hs y hy) hy2
      rw [bothR_iff] at hb
      rcases e1 with e1 | e1 <;> rcases e2 with e2 | e2
      · rw [e1, e2]
      · exact absurd ⟨e1 ▸ hx, e2 ▸ hy⟩ hb
      · exact absurd ⟨e2 ▸ hy, e1 ▸ hx⟩ hb
      · rw [e1, e2]
  · exact .inr fun x hx hx2 y hy hy2 => h x (hs x hx) hx2 y (hs y hy) hy2

theorem shares_split {cs : List (Int × Int)} {c : Int × Int} {L : List (List Int)} (hc : c.1 < c.2) (h : L.Pairwise (Shares cs)) : (splitF L c).Pairwise (Shares (cs ++ [c])) := by
  unfold splitF
  rw [List.pairwise_flatMap]
  refine ⟨fun R _ => ?_, h.imp fun {A B} hAB X hX Y hY => ?_⟩
  · unfold splitR
    split
    · rename_i hb
      rw [List.pairwise_cons]
      refine ⟨fun S hS => ?_, by simp⟩
      simp at hS
      subst hS
      refine .inl ⟨c, by simp, ?_, ?_, fun x hx hy => ?_⟩
      · rw [bothR_filter, hb]
        simp [inS]
        omega
      · rw [bothR_filter, hb]
        simp [outS]
      · have h1 := (List.mem_filter.1 hx).2
        have h2 := (List.mem_filter.1 hy).2
        simp [inS] at h1
        simp [outS] at h2
        omega
    · simp
  · have h1 : Shares cs X B := hAB.part (splitR_sub hX)
    have h2 : Shares cs Y X := h1.symm.part (splitR_sub hY)
    exact h2.symm.more fun d hd => by simp [hd]

theorem shares_regs (cs : List (Int × Int)) : ∀ (ds : List (Int × Int)) (L : List (List Int)), (∀ c ∈ cs, c.1 < c.2) → L.Pairwise (Shares ds) → (regsF L cs).Pairwise (Shares (ds ++ cs)) := by
  induction cs with
  | nil => intro ds L _ h; simpa [regsF] using h
  | cons c cs ih =>
    intro ds L hc h
    rw [regsF_cons]
    have := ih (ds ++ [c]) _ (fun d hd => hc d (by simp [hd])) (shares_split (hc c (by simp)) h)
    rwa [List.append_assoc, List.singleton_append] at this

theorem shares_regL {n : Nat} {xs : List (Int × Int)} (hg : goodC n xs) (hpl : allP xs xs.length = []) : (regL n xs).Pairwise (Shares xs) := by
  have h := shares_regs xs [] [selT (fun _ => true) n] (plane_of_good hg hpl).1 (by simp)
  rw [List.nil_append] at h
  exact ((regL_perm n xs).pairwise_iff (fun {A B} hAB => hAB.symm)).2 h
end Go.Proofs.Ytpliaenpencocab
