/- Neighbours among the regions: pairs of them (pure). -/
import Derived.Test.YtpliaenpencocabRR
namespace Go.Proofs.Ytpliaenpencocab
set_option linter.unusedVariables false

/-- How many points two regions share. -/
def comN (A B : List Int) : Nat := (B.filter fun p => A.contains p).length

theorem com_two {A B : List Int} {xs : List (Int × Int)} (hB : B.Nodup) (h : Shares xs A B) (hx : ∀ c ∈ xs, c.1 < c.2) : comN A B = 2 ↔ ∃ c ∈ xs, bothR c A = true ∧ bothR c B = true := by
  have hF : (B.filter fun p => A.contains p).Nodup := hB.sublist List.filter_sublist
  have hmem : ∀ p, p ∈ B.filter (fun p => A.contains p) ↔ p ∈ B ∧ p ∈ A := fun p => by rw [List.mem_filter]; simp
  constructor
  · intro h2
    unfold comN at h2
    rcases h with ⟨c, hc, h1, h3, _⟩ | h
    · exact ⟨c, hc, h1, h3⟩
    · exfalso
      match hFl : B.filter (fun p => A.contains p), h2 with
      | [a, b], _ =>
        rw [hFl] at hF hmem
        obtain ⟨a1, a2⟩ := (hmem a).1 (by simp)
        obtain ⟨b1, b2⟩ := (hmem b).1 (by simp)
        have e := h a a2 a1 b b2 b1
        simp at hF
        exact hF e
  · rintro ⟨c, hc, h1, h2⟩
    obtain ⟨x1, x2⟩ := (bothR_iff _ _).1 h1
    obtain ⟨y1, y2⟩ := (bothR_iff _ _).1 h2
    have hlt := hx c hc
    rcases h with ⟨e, he, g1, g2, g3⟩ | h
    · obtain ⟨p1, p2⟩ := (bothR_iff _ _).1 g1
      obtain ⟨q1, q2⟩ := (bothR_iff _ _).1 g2
      exact two_len (c := e) hF (hx e he) ((bothR_iff _ _).2 ⟨(hmem _).2 ⟨q1, p1⟩, (hmem _).2 ⟨q2, p2⟩⟩) fun x hxm => by
        obtain ⟨m1, m2⟩ := (hmem x).1 hxm
        exact g3 x m2 m1
    · have := h _ x1 y1 _ x2 y2
      omega

/-- Two chords have not the same two regions. -/
theorem chord_of_pair {A B : List Int} {xs : List (Int × Int)} (h : Shares xs A B) (hx : ∀ c ∈ xs, c.1 < c.2) {c d : Int × Int} (hc : c ∈ xs) (hd : d ∈ xs) (hcA : bothR c A = true) (hcB : bothR c B = true) (hdA : bothR d A = true) (hdB : bothR d B = true) : c = d := by
  obtain ⟨a1, a2⟩ := (bothR_iff _ _).1 hcA
  obtain ⟨b1, b2⟩ := (bothR_iff _ _).1 hcB
  obtain ⟨e1, e2⟩ := (bothR_iff _ _).1 hdA
  obtain ⟨f1, f2⟩ := (bothR_iff _ _).1 hdB
  have l1 := hx c hc
  have l2 := hx d hd
  rcases h with ⟨e, he, _, _, g⟩ | h
  · have l3 := hx e he
    have m1 := g _ a1 b1
    have m2 := g _ a2 b2
    have m3 := g _ e1 f1
    have m4 := g _ e2 f2
    exact Prod.ext (by omega) (by omega)
  · have := h _ a1 b1 _ a2 b2
    omega

/-- The two regions beside a chord of the set. -/
theorem sel_pair {n : Nat} {xs : List (Int × Int)} (hg : goodC n xs) (hpl : allP xs xs.length = []) {c : Int × Int} (hm : c ∈ xs) :
    ∃ i j, i < j ∧ j < (regL n xs).length ∧ (List.range (regL n xs).length).filter (fun k => bothR c ((regL n xs).getD k [])) = [i, j] := by
  have h2 := chord_two hg hpl hm
  unfold numR at h2
  rw [← countP_getD (bothR c) [] (regL n xs)] at h2
  have hp : ((List.range (regL n xs).length).filter (fun k => bothR c ((regL n xs).getD k []))).Pairwise (· < ·) := List.pairwise_lt_range.sublist List.filter_sublist
  have hb : ∀ k ∈ (List.range (regL n xs).length).filter (fun k => bothR c ((regL n xs).getD k [])), k < (regL n xs).length := fun k hk => by
    have := (List.mem_filter.1 hk).1
    simpa using this
  match hS : (List.range (regL n xs).length).filter (fun k => bothR c ((regL n xs).getD k [])), h2 with
  | [i, j], _ =>
    rw [hS] at hp hb
    refine ⟨i, j, ?_, hb j (by simp), rfl⟩
    simpa using hp

theorem regL_nodup {n : Nat} {xs : List (Int × Int)} (i : Nat) (hi : i < (regL n xs).length) : ((regL n xs).getD i []).Nodup := by
  have hm := (regL_perm n xs).mem_iff.1 (getD_mem (regL n xs) i [] hi)
  exact (whole_nodup n).sublist (regs_sub xs _ [selT (fun _ => true) n] (fun R hR => by simp at hR; subst hR; exact List.Sublist.refl _) _ hm)

theorem shares_at {n : Nat} {xs : List (Int × Int)} (hg : goodC n xs) (hpl : allP xs xs.length = []) {i j : Nat} (hij : i < j) (hj : j < (regL n xs).length) : Shares xs ((regL n xs).getD i []) ((regL n xs).getD j []) := by
  have h := shares_regL hg hpl
  rw [List.pairwise_iff_getElem] at h
  have := h i j (by omega) hj hij
  rw [List.getD_eq_getElem?_getD, List.getElem?_eq_getElem (by omega), List.getD_eq_getElem?_getD, List.getElem?_eq_getElem hj]
  exact this

/-- Two regions are neighbours just if they are those beside a chord. -/
theorem next_iff {n : Nat} {xs : List (Int × Int)} (hg : goodC n xs) (hpl : allP xs xs.length = []) {i j : Nat} (hij : i < j) (hj : j < (regL n xs).length) :
    comN ((regL n xs).getD i []) ((regL n xs).getD j []) = 2 ↔ ∃ c ∈ xs, (List.range (regL n xs).length).filter (fun k => bothR c ((regL n xs).getD k [])) = [i, j] := by
  have hx := (plane_of_good hg hpl).1
  rw [com_two (regL_nodup j hj) (shares_at hg hpl hij hj) hx]
  constructor
  · rintro ⟨c, hc, h1, h2⟩
    obtain ⟨a, b, hab, hb, hS⟩ := sel_pair hg hpl hc
    have m1 : i ∈ [a, b] := by rw [← hS]; exact List.mem_filter.2 ⟨by simp; omega, h1⟩
    have m2 : j ∈ [a, b] := by rw [← hS]; exact List.mem_filter.2 ⟨by simp; exact hj, h2⟩
    simp at m1 m2
    refine ⟨c, hc, ?_⟩
    rw [hS, show a = i by omega, show b = j by omega]
  · rintro ⟨c, hc, hS⟩
    have m1 : i ∈ (List.range (regL n xs).length).filter (fun k => bothR c ((regL n xs).getD k [])) := by rw [hS]; simp
    have m2 : j ∈ (List.range (regL n xs).length).filter (fun k => bothR c ((regL n xs).getD k [])) := by rw [hS]; simp
    exact ⟨c, hc, (List.mem_filter.1 m1).2, (List.mem_filter.1 m2).2⟩

/-- Different chords have different pairs. -/
theorem next_one {n : Nat} {xs : List (Int × Int)} (hg : goodC n xs) (hpl : allP xs xs.length = []) {c d : Int × Int} (hc : c ∈ xs) (hd : d ∈ xs)
    (he : (List.range (regL n xs).length).filter (fun k => bothR c ((regL n xs).getD k [])) = (List.range (regL n xs).length).filter (fun k => bothR d ((regL n xs).getD k []))) : c = d := by
  obtain ⟨i, j, hij, hj, hS⟩ := sel_pair hg hpl hc
  have m : ∀ (e : Int × Int) (k : Nat), (List.range (regL n xs).length).filter (fun k => bothR e ((regL n xs).getD k [])) = [i, j] → k ∈ [i, j] → bothR e ((regL n xs).getD k []) = true := fun e k hE hk => by
    rw [← hE] at hk
    exact (List.mem_filter.1 hk).2
  have hS2 := he ▸ hS
  exact chord_of_pair (shares_at hg hpl hij hj) (plane_of_good hg hpl).1 hc hd (m c i hS (by simp)) (m c j hS (by simp)) (m d i hS2 (by simp)) (m d j hS2 (by simp))
end Go.Proofs.Ytpliaenpencocab
