/- Regions of a plane set: what chords part, as Lean functions. -/
import Derived.Test.YtpliaenpencocabA2
namespace Go.Proofs.Ytpliaenpencocab

/-- Is a point on the side of a chord that leads from its lesser point on to the greater one, or on the other side? -/
def inS (c : Int × Int) (p : Int) : Bool := decide (c.1 ≤ p ∧ p ≤ c.2)
def outS (c : Int × Int) (p : Int) : Bool := decide (p ≤ c.1 ∨ c.2 ≤ p)

/-- Has a region both points of a chord? -/
def bothR (c : Int × Int) (R : List Int) : Bool := R.contains c.1 && R.contains c.2

theorem bothR_iff (c : Int × Int) (R : List Int) : bothR c R = true ↔ c.1 ∈ R ∧ c.2 ∈ R := by simp [bothR]

/-- Two chords that are not one and do not cross. -/
def Apart (c d : Int × Int) : Prop := c ≠ d ∧ crossP c d = false

theorem Apart.symm {c d : Int × Int} (h : Apart c d) : Apart d c := ⟨h.1.symm, by rw [crossP_comm]; exact h.2⟩

theorem sides_of {c d : Int × Int} (hc : c.1 < c.2) (hd : d.1 < d.2) (h : Apart c d) :
    ((inS c d.1 && inS c d.2) = true ∧ (outS c d.1 && outS c d.2) = false) ∨ ((inS c d.1 && inS c d.2) = false ∧ (outS c d.1 && outS c d.2) = true) := by
  obtain ⟨a, b⟩ := c
  obtain ⟨x, y⟩ := d
  obtain ⟨hne, hx⟩ := h
  have hne' : a = x → ¬ b = y := fun e1 e2 => hne (by rw [e1, e2])
  unfold crossP crossB at hx
  rw [decide_eq_false_iff_not] at hx
  unfold inS outS
  simp only at hc hd hx ⊢
  by_cases h1 : (a ≤ x ∧ x ≤ b) ∧ (a ≤ y ∧ y ≤ b)
  · left
    have h2 : ¬ ((x ≤ a ∨ b ≤ x) ∧ (y ≤ a ∨ b ≤ y)) := by
      rintro ⟨g1, g2⟩
      by_cases e : a = x
      · have := hne' e; omega
      · omega
    refine ⟨by rw [Bool.and_eq_true, decide_eq_true_eq, decide_eq_true_eq]; exact h1, ?_⟩
    rw [← Bool.not_eq_true, Bool.and_eq_true, decide_eq_true_eq, decide_eq_true_eq]
    exact h2
  · right
    have h2 : (x ≤ a ∨ b ≤ x) ∧ (y ≤ a ∨ b ≤ y) := by omega
    refine ⟨?_, by rw [Bool.and_eq_true, decide_eq_true_eq, decide_eq_true_eq]; exact h2⟩
    rw [← Bool.not_eq_true, Bool.and_eq_true, decide_eq_true_eq, decide_eq_true_eq]
    exact h1

/-- What a chord makes of a region, and of some. -/
def splitR (c : Int × Int) (R : List Int) : List (List Int) := if bothR c R then [R.filter (inS c), R.filter (outS c)] else [R]
def splitF (L : List (List Int)) (c : Int × Int) : List (List Int) := L.flatMap (splitR c)
/-- The regions of some chords. -/
def regsF (L : List (List Int)) (cs : List (Int × Int)) : List (List Int) := cs.foldl splitF L

theorem splitF_append (L M : List (List Int)) (c : Int × Int) : splitF (L ++ M) c = splitF L c ++ splitF M c := by simp [splitF]

theorem regsF_append (L M : List (List Int)) (cs : List (Int × Int)) : regsF (L ++ M) cs = regsF L cs ++ regsF M cs := by
  induction cs generalizing L M with
  | nil => rfl
  | cons c cs ih =>
    show regsF (splitF (L ++ M) c) cs = regsF (splitF L c) cs ++ regsF (splitF M c) cs
    rw [splitF_append, ih]

theorem regsF_cons (L : List (List Int)) (c : Int × Int) (cs : List (Int × Int)) : regsF L (c :: cs) = regsF (splitF L c) cs := rfl
theorem regsF_snoc (L : List (List Int)) (c : Int × Int) (cs : List (Int × Int)) : regsF L (cs ++ [c]) = splitF (regsF L cs) c := by simp [regsF]

theorem splitR_sub {c : Int × Int} {R S : List Int} (h : S ∈ splitR c R) : ∀ x ∈ S, x ∈ R := by
  intro x hx
  unfold splitR at h
  split at h
  · simp at h
    rcases h with rfl | rfl <;> exact (List.mem_filter.1 hx).1
  · simp at h
    subst h
    exact hx

/-- A chord that no region has makes nothing of them. -/
theorem splitF_none {L : List (List Int)} {c : Int × Int} (h : ∀ R ∈ L, bothR c R = false) : splitF L c = L := by
  induction L with
  | nil => rfl
  | cons R L ih =>
    have e1 : splitR c R = [R] := by unfold splitR; rw [h R (by simp)]; rfl
    have e2 : splitF (R :: L) c = splitR c R ++ splitF L c := by simp [splitF]
    rw [e2, e1, ih fun S hS => h S (by simp [hS])]
    rfl

/-- Only chords with both points in what contains the regions count. -/
theorem regsF_filter (cs : List (Int × Int)) : ∀ (L : List (List Int)) (W : List Int), (∀ R ∈ L, ∀ x ∈ R, x ∈ W) → regsF L cs = regsF L (cs.filter fun d => bothR d W) := by
  induction cs with
  | nil => intro L W _; rfl
  | cons c cs ih =>
    intro L W hW
    rw [regsF_cons]
    have hs : ∀ R ∈ splitF L c, ∀ x ∈ R, x ∈ W := by
      intro R hR x hx
      obtain ⟨S, hS, hRS⟩ := List.mem_flatMap.1 hR
      exact hW S hS x (splitR_sub hRS x hx)
    by_cases hb : bothR c W = true
    · rw [List.filter_cons_of_pos (p := fun d => bothR d W) hb, regsF_cons]
      exact ih _ W hs
    · rw [List.filter_cons_of_neg (p := fun d => bothR d W) hb, splitF_none (L := L) (c := c) fun R hR => ?_]
      · exact ih _ W hW
      · rw [← Bool.not_eq_true]
        intro hR2
        obtain ⟨h1, h2⟩ := (bothR_iff _ _).1 hR2
        exact hb ((bothR_iff _ _).2 ⟨hW R hR _ h1, hW R hR _ h2⟩)

/-- A region and the chords that part it still. -/
def partsOf (n : Nat) (pts : List Int) (cs : List (Int × Int)) : List (List Int) :=
  match n, cs with
  | _, [] => [pts]
  | 0, _ :: _ => [pts]
  | n + 1, c :: cs => partsOf n (pts.filter (inS c)) (cs.filter fun d => inS c d.1 && inS c d.2) ++ partsOf n (pts.filter (outS c)) (cs.filter fun d => outS c d.1 && outS c d.2)

theorem partsOf_regs : ∀ (n : Nat) (pts : List Int) (cs : List (Int × Int)), cs.length ≤ n → (∀ d ∈ cs, bothR d pts = true) → partsOf n pts cs = regsF [pts] cs := by
  intro n
  induction n with
  | zero =>
    intro pts cs hn _
    obtain rfl := List.length_eq_zero_iff.1 (Nat.le_zero.1 hn)
    rfl
  | succ n ih =>
    intro pts cs hn hb
    cases cs with
    | nil => rfl
    | cons c cs =>
      have hl : cs.length ≤ n := by simp at hn; exact hn
      have key : ∀ f : Int → Bool, partsOf n (pts.filter f) (cs.filter fun d => f d.1 && f d.2) = regsF [pts.filter f] cs := by
        intro f
        have e : cs.filter (fun d => f d.1 && f d.2) = cs.filter (fun d => bothR d (pts.filter f)) := by
          refine List.filter_congr fun d hd => ?_
          obtain ⟨h1, h2⟩ := (bothR_iff _ _).1 (hb d (by simp [hd]))
          rw [Bool.eq_iff_iff, bothR_iff, Bool.and_eq_true, List.mem_filter, List.mem_filter]
          exact ⟨fun ⟨g1, g2⟩ => ⟨⟨h1, g1⟩, h2, g2⟩, fun ⟨⟨_, g1⟩, _, g2⟩ => ⟨g1, g2⟩⟩
        rw [e, ih _ _ (Nat.le_trans (List.length_filter_le _ _) hl) fun d hd => (List.mem_filter.1 hd).2]
        exact (regsF_filter cs [pts.filter f] (pts.filter f) (by simp)).symm
      have e1 : splitF [pts] c = [pts.filter (inS c)] ++ [pts.filter (outS c)] := by
        simp [splitF, splitR, hb c (by simp)]
      rw [partsOf, key (inS c), key (outS c), regsF_cons, e1, regsF_append]

/-- How many regions have both points of d. -/
def numR (d : Int × Int) (L : List (List Int)) : Nat := L.countP (bothR d)

theorem numR_append (d : Int × Int) (L M : List (List Int)) : numR d (L ++ M) = numR d L + numR d M := by simp [numR]

theorem bothR_filter (d : Int × Int) (R : List Int) (f : Int → Bool) : bothR d (R.filter f) = (bothR d R && (f d.1 && f d.2)) := by
  rw [Bool.eq_iff_iff, bothR_iff, Bool.and_eq_true, bothR_iff, Bool.and_eq_true, List.mem_filter, List.mem_filter]
  exact ⟨fun ⟨⟨a, b⟩, c, e⟩ => ⟨⟨a, c⟩, b, e⟩, fun ⟨⟨a, c⟩, b, e⟩ => ⟨⟨a, b⟩, c, e⟩⟩

theorem numR_splitR {c d : Int × Int} (hc : c.1 < c.2) (hd : d.1 < d.2) (h : Apart c d) (R : List Int) : numR d (splitR c R) = if bothR d R then 1 else 0 := by
  unfold splitR
  split
  · have e : numR d [R.filter (inS c), R.filter (outS c)] = (if bothR d (R.filter (inS c)) then 1 else 0) + (if bothR d (R.filter (outS c)) then 1 else 0) := by
      simp [numR, List.countP_cons]
      omega
    rw [e, bothR_filter, bothR_filter]
    rcases sides_of hc hd h with ⟨g1, g2⟩ | ⟨g1, g2⟩ <;> rw [g1, g2] <;> simp
  · simp [numR, List.countP_cons]

theorem numR_own {c : Int × Int} (hc : c.1 < c.2) (R : List Int) : numR c (splitR c R) = if bothR c R then 2 else 0 := by
  have e1 : (inS c c.1 && inS c c.2) = true := by simp [inS]; omega
  have e2 : (outS c c.1 && outS c c.2) = true := by simp [outS]
  unfold splitR
  split
  · rename_i hb
    simp [numR, bothR_filter, hb, e1, e2]
  · rename_i hb
    simp [numR, hb]

theorem numR_cons (d : Int × Int) (R : List Int) (L : List (List Int)) : numR d (R :: L) = (if bothR d R then 1 else 0) + numR d L := by
  simp [numR, List.countP_cons]; omega

theorem numR_splitF {c d : Int × Int} (hc : c.1 < c.2) (hd : d.1 < d.2) (h : Apart c d) (L : List (List Int)) : numR d (splitF L c) = numR d L := by
  induction L with
  | nil => rfl
  | cons R L ih =>
    have e2 : splitF (R :: L) c = splitR c R ++ splitF L c := by simp [splitF]
    rw [e2, numR_append, numR_splitR hc hd h, ih, numR_cons]

theorem numR_splitF_own {c : Int × Int} (hc : c.1 < c.2) (L : List (List Int)) : numR c (splitF L c) = 2 * numR c L := by
  induction L with
  | nil => rfl
  | cons R L ih =>
    have e2 : splitF (R :: L) c = splitR c R ++ splitF L c := by simp [splitF]
    rw [e2, numR_append, numR_own hc, ih, numR_cons]
    split <;> omega

theorem numR_regs {d : Int × Int} (hd : d.1 < d.2) (cs : List (Int × Int)) : ∀ L, (∀ c ∈ cs, c.1 < c.2 ∧ Apart c d) → numR d (regsF L cs) = numR d L := by
  induction cs with
  | nil => intro L _; rfl
  | cons c cs ih =>
    intro L h
    rw [regsF_cons, ih _ fun x hx => h x (by simp [hx]), numR_splitF (h c (by simp)).1 hd (h c (by simp)).2]

/-- The first region with both points of a chord is parted, as the model does it. -/
def firstR (c : Int × Int) (L : List (List Int)) : Nat := L.findIdx (bothR c)

theorem splitF_first {c : Int × Int} {L : List (List Int)} (h : numR c L = 1) : firstR c L < L.length ∧
    splitF L c = L.take (firstR c L) ++ [(L.getD (firstR c L) []).filter (inS c), (L.getD (firstR c L) []).filter (outS c)] ++ L.drop (firstR c L + 1) := by
  induction L with
  | nil => simp [numR] at h
  | cons R L ih =>
    have e2 : splitF (R :: L) c = splitR c R ++ splitF L c := by simp [splitF]
    rw [numR_cons] at h
    by_cases hb : bothR c R = true
    · have h0 : numR c L = 0 := by rw [if_pos hb] at h; omega
      have h1 : splitF L c = L := splitF_none fun S hS => by
        rw [← Bool.not_eq_true]
        intro hS2
        have := List.countP_pos_iff.2 ⟨S, hS, hS2⟩
        unfold numR at h0
        omega
      have e3 : firstR c (R :: L) = 0 := by simp [firstR, List.findIdx_cons, hb]
      rw [e2, h1, e3]
      refine ⟨by simp, ?_⟩
      simp [splitR, hb]
    · have h1 : numR c L = 1 := by rw [if_neg hb] at h; omega
      obtain ⟨g1, g2⟩ := ih h1
      have e3 : firstR c (R :: L) = firstR c L + 1 := by simp [firstR, List.findIdx_cons, hb]
      rw [e2, g2, e3]
      refine ⟨by simp; omega, ?_⟩
      simp [splitR, hb]

theorem numR_before {c : Int × Int} {L : List (List Int)} : ∀ i, i < firstR c L → i < L.length → bothR c (L.getD i []) = false := by
  intro i hi hl
  have := List.not_of_lt_findIdx hi
  rw [List.getD_eq_getElem?_getD, List.getElem?_eq_getElem hl]
  simpa using this

theorem numR_at {c : Int × Int} {L : List (List Int)} (h : firstR c L < L.length) : bothR c (L.getD (firstR c L) []) = true := by
  rw [List.getD_eq_getElem?_getD, List.getElem?_eq_getElem h]
  exact List.findIdx_getElem (w := h)
end Go.Proofs.Ytpliaenpencocab
