/- ZE: A2, RA, Fd0, Fd1, Fd2, one after the other. -/
import Derived.Test.YtnldnjgnpdicnaaP4
namespace Go.Proofs.Ytnldnjgnpdicnaa

theorem crossP_self (x : Int × Int) : crossP x x = false := by
  unfold crossP crossB
  rw [decide_eq_false_iff_not]
  omega

/-- How many pieces the first k chords of xs have. -/
def piecesL (xs : List (Int × Int)) : Nat → Nat
  | 0 => 0
  | k + 1 => piecesL xs k + (1 + cntC (xs.getD k (0, 0)) xs)

/-- The sum of what chords of ys cross of xs. -/
def crossSum (ys xs : List (Int × Int)) : Nat := (ys.map fun c => cntC c xs).sum

theorem crossSum_snoc (ys xs : List (Int × Int)) (y : Int × Int) : crossSum (ys ++ [y]) xs = crossSum ys xs + cntC y xs := by
  simp [crossSum]

theorem crossSum_more (ys xs : List (Int × Int)) (x : Int × Int) : crossSum ys (xs ++ [x]) = crossSum ys xs + cntC x ys := by
  induction ys with
  | nil => simp [crossSum, cntC]
  | cons y r ih =>
    have e1 : crossSum (y :: r) (xs ++ [x]) = cntC y (xs ++ [x]) + crossSum r (xs ++ [x]) := by simp [crossSum]
    have e2 : crossSum (y :: r) xs = cntC y xs + crossSum r xs := by simp [crossSum]
    have e3 : cntC x (y :: r) = cntC x r + if crossP x y then 1 else 0 := by simp [cntC, List.countP_cons]
    rw [e1, e2, e3, ih, cntC_snoc, crossP_comm y x]
    omega

theorem list_snoc_ind {α : Type} {C : List α → Prop} (h0 : C []) (h1 : ∀ l x, C l → C (l ++ [x])) (l : List α) : C l := by
  have : ∀ n (l : List α), l.length = n → C l := by
    intro n
    induction n with
    | zero => intro l hl; rw [List.length_eq_zero_iff.1 hl]; exact h0
    | succ n ih =>
      intro l hl
      have hne : l ≠ [] := fun e => by rw [e] at hl; simp at hl
      rw [← List.dropLast_concat_getLast hne]
      exact h1 _ _ (ih _ (by simp [hl]))
  exact this _ l rfl

theorem crossSum_pairs (xs : List (Int × Int)) : crossSum xs xs = 2 * pairsC xs := by
  induction xs using list_snoc_ind with
  | h0 => simp [crossSum, pairsC]
  | h1 l x ih =>
    rw [crossSum_snoc, crossSum_more, ih, pairsC_snoc, cntC_snoc, crossP_self]
    simp
    omega

theorem piecesL_sum (xs : List (Int × Int)) (k : Nat) (h : k ≤ xs.length) : piecesL xs k = k + crossSum (xs.take k) xs := by
  induction k with
  | zero => simp [piecesL, crossSum]
  | succ k ih =>
    have e : xs.take (k + 1) = xs.take k ++ [xs.getD k (0, 0)] := by
      rw [List.take_succ_eq_append_getElem (by omega), List.getD_eq_getElem?_getD, List.getElem?_eq_getElem (by omega)]
      rfl
    rw [piecesL, ih (by omega), e, crossSum_snoc]
    omega

theorem piecesL_all (xs : List (Int × Int)) : piecesL xs xs.length = xs.length + 2 * pairsC xs := by
  rw [piecesL_sum xs _ (Nat.le_refl _), List.take_length, crossSum_pairs]

theorem piecesL_le (xs : List (Int × Int)) (k : Nat) : piecesL xs k ≤ k * (1 + xs.length) := by
  induction k with
  | zero => simp [piecesL]
  | succ k ih =>
    have := cntC_le (xs.getD k (0, 0)) xs
    rw [piecesL, Nat.succ_mul]
    omega

theorem piecesL_step (xs : List (Int × Int)) (k : Nat) : piecesL xs (k + 1) = piecesL xs k + (1 + cntC (xs.getD k (0, 0)) xs) := rfl
end Go.Proofs.Ytnldnjgnpdicnaa

namespace Go.Proofs.Ytnldnjgnpdicnaa

/-- Is a point on the side of a chord that leads from its lesser point on to the greater one, or on the other side? -/
def inS (c : Int × Int) (p : Int) : Bool := decide (c.1 ≤ p ∧ p ≤ c.2)
def outS (c : Int × Int) (p : Int) : Bool := decide (p ≤ c.1 ∨ c.2 ≤ p)

/-- Has a region both points of a chord? -/
def bothR (c : Int × Int) (R : List Int) : Bool := R.contains c.1 && R.contains c.2

theorem bothR_iff (c : Int × Int) (R : List Int) : bothR c R = true ↔ c.1 ∈ R ∧ c.2 ∈ R := by simp [bothR]

/-- Two chords that are not one and do not cross. -/
def Apart (c d : Int × Int) : Prop := c ≠ d ∧ crossP c d = false

theorem Apart.symm {c d : Int × Int} (h : Apart c d) : Apart d c := ⟨h.1.symm, by rw [crossP_comm]; exact h.2⟩

theorem sides_of {c d : Int × Int} (hc : c.1 < c.2) (hd : d.1 < d.2) (h : Apart c d) :
    ((inS c d.1 && inS c d.2) = true ∧ (outS c d.1 && outS c d.2) = false) ∨ ((inS c d.1 && inS c d.2) = false ∧ (outS c d.1 && outS c d.2) = true) := by
  obtain ⟨a, b⟩ := c
  obtain ⟨x, y⟩ := d
  obtain ⟨hne, hx⟩ := h
  have hne' : a = x → ¬ b = y := fun e1 e2 => hne (by rw [e1, e2])
  unfold crossP crossB at hx
  rw [decide_eq_false_iff_not] at hx
  unfold inS outS
  simp only at hc hd hx ⊢
  by_cases h1 : (a ≤ x ∧ x ≤ b) ∧ (a ≤ y ∧ y ≤ b)
  · left
    have h2 : ¬ ((x ≤ a ∨ b ≤ x) ∧ (y ≤ a ∨ b ≤ y)) := by
      rintro ⟨g1, g2⟩
      by_cases e : a = x
      · have := hne' e; omega
      · omega
    refine ⟨by rw [Bool.and_eq_true, decide_eq_true_eq, decide_eq_true_eq]; exact h1, ?_⟩
    rw [← Bool.not_eq_true, Bool.and_eq_true, decide_eq_true_eq, decide_eq_true_eq]
    exact h2
  · right
    have h2 : (x ≤ a ∨ b ≤ x) ∧ (y ≤ a ∨ b ≤ y) := by omega
    refine ⟨?_, by rw [Bool.and_eq_true, decide_eq_true_eq, decide_eq_true_eq]; exact h2⟩
    rw [← Bool.not_eq_true, Bool.and_eq_true, decide_eq_true_eq, decide_eq_true_eq]
    exact h1

/-- What a chord makes of a region, and of some. -/
def splitR (c : Int × Int) (R : List Int) : List (List Int) := if bothR c R then [R.filter (inS c), R.filter (outS c)] else [R]
def splitF (L : List (List Int)) (c : Int × Int) : List (List Int) := L.flatMap (splitR c)
/-- The regions of some chords. -/
def regsF (L : List (List Int)) (cs : List (Int × Int)) : List (List Int) := cs.foldl splitF L

theorem splitF_append (L M : List (List Int)) (c : Int × Int) : splitF (L ++ M) c = splitF L c ++ splitF M c := by simp [splitF]

theorem regsF_append (L M : List (List Int)) (cs : List (Int × Int)) : regsF (L ++ M) cs = regsF L cs ++ regsF M cs := by
  induction cs generalizing L M with
  | nil => rfl
  | cons c cs ih =>
    show regsF (splitF (L ++ M) c) cs = regsF (splitF L c) cs ++ regsF (splitF M c) cs
    rw [splitF_append, ih]

theorem regsF_cons (L : List (List Int)) (c : Int × Int) (cs : List (Int × Int)) : regsF L (c :: cs) = regsF (splitF L c) cs := rfl
theorem regsF_snoc (L : List (List Int)) (c : Int × Int) (cs : List (Int × Int)) : regsF L (cs ++ [c]) = splitF (regsF L cs) c := by simp [regsF]

theorem splitR_sub {c : Int × Int} {R S : List Int} (h : S ∈ splitR c R) : ∀ x ∈ S, x ∈ R := by
  intro x hx
  unfold splitR at h
  split at h
  · simp at h
    rcases h with rfl | rfl <;> exact (List.mem_filter.1 hx).1
  · simp at h
    subst h
    exact hx

/-- A chord that no region has makes nothing of them. -/
theorem splitF_none {L : List (List Int)} {c : Int × Int} (h : ∀ R ∈ L, bothR c R = false) : splitF L c = L := by
  induction L with
  | nil => rfl
  | cons R L ih =>
    have e1 : splitR c R = [R] := by unfold splitR; rw [h R (by simp)]; rfl
    have e2 : splitF (R :: L) c = splitR c R ++ splitF L c := by simp [splitF]
    rw [e2, e1, ih fun S hS => h S (by simp [hS])]
    rfl

/-- Only chords with both points in what contains the regions count. -/
theorem regsF_filter (cs : List (Int × Int)) : ∀ (L : List (List Int)) (W : List Int), (∀ R ∈ L, ∀ x ∈ R, x ∈ W) → regsF L cs = regsF L (cs.filter fun d => bothR d W) := by
  induction cs with
  | nil => intro L W _; rfl
  | cons c cs ih =>
    intro L W hW
    rw [regsF_cons]
    have hs : ∀ R ∈ splitF L c, ∀ x ∈ R, x ∈ W := by
      intro R hR x hx
      obtain ⟨S, hS, hRS⟩ := List.mem_flatMap.1 hR
      exact hW S hS x (splitR_sub hRS x hx)
    by_cases hb : bothR c W = true
    · rw [List.filter_cons_of_pos (p := fun d => bothR d W) hb, regsF_cons]
      exact ih _ W hs
    · rw [List.filter_cons_of_neg (p := fun d => bothR d W) hb, splitF_none (L := L) (c := c) fun R hR => ?_]
      · exact ih _ W hW
      · rw [← Bool.not_eq_true]
        intro hR2
        obtain ⟨h1, h2⟩ := (bothR_iff _ _).1 hR2
        exact hb ((bothR_iff _ _).2 ⟨hW R hR _ h1, hW R hR _ h2⟩)

/-- A region and the chords that part it still. -/
def partsOf (n : Nat) (pts : List Int) (cs : List (Int × Int)) : List (List Int) :=
  match n, cs with
  | _, [] => [pts]
  | 0, _ :: _ => [pts]
  | n + 1, c :: cs => partsOf n (pts.filter (inS c)) (cs.filter fun d => inS c d.1 && inS c d.2) ++ partsOf n (pts.filter (outS c)) (cs.filter fun d => outS c d.1 && outS c d.2)

theorem partsOf_regs : ∀ (n : Nat) (pts : List Int) (cs : List (Int × Int)), cs.length ≤ n → (∀ d ∈ cs, bothR d pts = true) → partsOf n pts cs = regsF [pts] cs := by
  intro n
  induction n with
  | zero =>
    intro pts cs hn _
    obtain rfl := List.length_eq_zero_iff.1 (Nat.le_zero.1 hn)
    rfl
  | succ n ih =>
    intro pts cs hn hb
    cases cs with
    | nil => rfl
    | cons c cs =>
      have hl : cs.length ≤ n := by simp at hn; exact hn
      have key : ∀ f : Int → Bool, partsOf n (pts.filter f) (cs.filter fun d => f d.1 && f d.2) = regsF [pts.filter f] cs := by
        intro f
        have e : cs.filter (fun d => f d.1 && f d.2) = cs.filter (fun d => bothR d (pts.filter f)) := by
          refine List.filter_congr fun d hd => ?_
          obtain ⟨h1, h2⟩ := (bothR_iff _ _).1 (hb d (by simp [hd]))
          rw [Bool.eq_iff_iff, bothR_iff, Bool.and_eq_true, List.mem_filter, List.mem_filter]
          exact ⟨fun ⟨g1, g2⟩ => ⟨⟨h1, g1⟩, h2, g2⟩, fun ⟨⟨_, g1⟩, _, g2⟩ => ⟨g1, g2⟩⟩
        rw [e, ih _ _ (Nat.le_trans (List.length_filter_le _ _) hl) fun d hd => (List.mem_filter.1 hd).2]
        exact (regsF_filter cs [pts.filter f] (pts.filter f) (by simp)).symm
      have e1 : splitF [pts] c = [pts.filter (inS c)] ++ [pts.filter (outS c)] := by
        simp [splitF, splitR, hb c (by simp)]
      rw [partsOf, key (inS c), key (outS c), regsF_cons, e1, regsF_append]

/-- How many regions have both points of d. -/
def numR (d : Int × Int) (L : List (List Int)) : Nat := L.countP (bothR d)

theorem numR_append (d : Int × Int) (L M : List (List Int)) : numR d (L ++ M) = numR d L + numR d M := by simp [numR]

theorem bothR_filter (d : Int × Int) (R : List Int) (f : Int → Bool) : bothR d (R.filter f) = (bothR d R && (f d.1 && f d.2)) := by
  rw [Bool.eq_iff_iff, bothR_iff, Bool.and_eq_true, bothR_iff, Bool.and_eq_true, List.mem_filter, List.mem_filter]
  exact ⟨fun ⟨⟨a, b⟩, c, e⟩ => ⟨⟨a, c⟩, b, e⟩, fun ⟨⟨a, c⟩, b, e⟩ => ⟨⟨a, b⟩, c, e⟩⟩

theorem numR_splitR {c d : Int × Int} (hc : c.1 < c.2) (hd : d.1 < d.2) (h : Apart c d) (R : List Int) : numR d (splitR c R) = if bothR d R then 1 else 0 := by
  unfold splitR
  split
  · have e : numR d [R.filter (inS c), R.filter (outS c)] = (if bothR d (R.filter (inS c)) then 1 else 0) + (if bothR d (R.filter (outS c)) then 1 else 0) := by
      simp [numR, List.countP_cons]
      omega
    rw [e, bothR_filter, bothR_filter]
    rcases sides_of hc hd h with ⟨g1, g2⟩ | ⟨g1, g2⟩ <;> rw [g1, g2] <;> simp
  · simp [numR, List.countP_cons]

theorem numR_own {c : Int × Int} (hc : c.1 < c.2) (R : List Int) : numR c (splitR c R) = if bothR c R then 2 else 0 := by
  have e1 : (inS c c.1 && inS c c.2) = true := by simp [inS]; omega
  have e2 : (outS c c.1 && outS c c.2) = true := by simp [outS]
  unfold splitR
  split
  · rename_i hb
    simp [numR, bothR_filter, hb, e1, e2]
  · rename_i hb
    simp [numR, hb]

theorem numR_cons (d : Int × Int) (R : List Int) (L : List (List Int)) : numR d (R :: L) = (if bothR d R then 1 else 0) + numR d L := by
  simp [numR, List.countP_cons]; omega

theorem numR_splitF {c d : Int × Int} (hc : c.1 < c.2) (hd : d.1 < d.2) (h : Apart c d) (L : List (List Int)) : numR d (splitF L c) = numR d L := by
  induction L with
  | nil => rfl
  | cons R L ih =>
    have e2 : splitF (R :: L) c = splitR c R ++ splitF L c := by simp [splitF]
    rw [e2, numR_append, numR_splitR hc hd h, ih, numR_cons]

theorem numR_splitF_own {c : Int × Int} (hc : c.1 < c.2) (L : List (List Int)) : numR c (splitF L c) = 2 * numR c L := by
  induction L with
  | nil => rfl
  | cons R L ih =>
    have e2 : splitF (R :: L) c = splitR c R ++ splitF L c := by simp [splitF]
    rw [e2, numR_append, numR_own hc, ih, numR_cons]
    split <;> omega

theorem numR_regs {d : Int × Int} (hd : d.1 < d.2) (cs : List (Int × Int)) : ∀ L, (∀ c ∈ cs, c.1 < c.2 ∧ Apart c d) → numR d (regsF L cs) = numR d L := by
  induction cs with
  | nil => intro L _; rfl
  | cons c cs ih =>
    intro L h
    rw [regsF_cons, ih _ fun x hx => h x (by simp [hx]), numR_splitF (h c (by simp)).1 hd (h c (by simp)).2]

/-- The first region with both points of a chord is parted, as the model does it. -/
def firstR (c : Int × Int) (L : List (List Int)) : Nat := L.findIdx (bothR c)

theorem splitF_first {c : Int × Int} {L : List (List Int)} (h : numR c L = 1) : firstR c L < L.length ∧
    splitF L c = L.take (firstR c L) ++ [(L.getD (firstR c L) []).filter (inS c), (L.getD (firstR c L) []).filter (outS c)] ++ L.drop (firstR c L + 1) := by
  induction L with
  | nil => simp [numR] at h
  | cons R L ih =>
    have e2 : splitF (R :: L) c = splitR c R ++ splitF L c := by simp [splitF]
    rw [numR_cons] at h
    by_cases hb : bothR c R = true
    · have h0 : numR c L = 0 := by rw [if_pos hb] at h; omega
      have h1 : splitF L c = L := splitF_none fun S hS => by
        rw [← Bool.not_eq_true]
        intro hS2
        have := List.countP_pos_iff.2 ⟨S, hS, hS2⟩
        unfold numR at h0
        omega
      have e3 : firstR c (R :: L) = 0 := by simp [firstR, List.findIdx_cons, hb]
      rw [e2, h1, e3]
      refine ⟨by simp, ?_⟩
      simp [splitR, hb]
    · have h1 : numR c L = 1 := by rw [if_neg hb] at h; omega
      obtain ⟨g1, g2⟩ := ih h1
      have e3 : firstR c (R :: L) = firstR c L + 1 := by simp [firstR, List.findIdx_cons, hb]
      rw [e2, g2, e3]
      refine ⟨by simp; omega, ?_⟩
      simp [splitR, hb]

theorem numR_before {c : Int × Int} {L : List (List Int)} : ∀ i, i < firstR c L → i < L.length → bothR c (L.getD i []) = false := by
  intro i hi hl
  have := List.not_of_lt_findIdx hi
  rw [List.getD_eq_getElem?_getD, List.getElem?_eq_getElem hl]
  simpa using this

theorem numR_at {c : Int × Int} {L : List (List Int)} (h : firstR c L < L.length) : bothR c (L.getD (firstR c L) []) = true := by
  rw [List.getD_eq_getElem?_getD, List.getElem?_eq_getElem h]
  exact List.findIdx_getElem (w := h)
end Go.Proofs.Ytnldnjgnpdicnaa

namespace Go.Proofs.Ytnldnjgnpdicnaa

theorem filter_two (R : List Int) (f g h : Int → Bool) (e : ∀ x, (g x && f x) = h x) : (R.filter f).filter g = R.filter h := by
  rw [List.filter_filter]
  exact List.filter_congr fun x _ => e x

theorem splitR_no {c : Int × Int} {R : List Int} (h : bothR c R = false) : splitR c R = [R] := by unfold splitR; rw [h]; rfl
theorem splitR_yes {c : Int × Int} {R : List Int} (h : bothR c R = true) : splitR c R = [R.filter (inS c), R.filter (outS c)] := by unfold splitR; rw [h]; rfl

theorem bothR_sub {c : Int × Int} {R S : List Int} (hs : ∀ x ∈ S, x ∈ R) (h : bothR c R = false) : bothR c S = false := by
  rw [← Bool.not_eq_true] at h ⊢
  intro h2
  obtain ⟨a, b⟩ := (bothR_iff _ _).1 h2
  exact h ((bothR_iff _ _).2 ⟨hs _ a, hs _ b⟩)

theorem flat_two (f : List Int → List (List Int)) (A B : List Int) : [A, B].flatMap f = f A ++ f B := by simp
theorem flat_one (f : List Int → List (List Int)) (A : List Int) : [A].flatMap f = f A := by simp

theorem inS_iff (c : Int × Int) (p : Int) : inS c p = true ↔ c.1 ≤ p ∧ p ≤ c.2 := by simp [inS]
theorem outS_iff (c : Int × Int) (p : Int) : outS c p = true ↔ p ≤ c.1 ∨ c.2 ≤ p := by simp [outS]

/-- Two chords that do not cross part a region in whichever order. -/
theorem splitR_comm {c d : Int × Int} (hc : c.1 < c.2) (hd : d.1 < d.2) (h : Apart c d) (R : List Int) :
    ((splitR c R).flatMap (splitR d)).Perm ((splitR d R).flatMap (splitR c)) := by
  have sub : ∀ f : Int → Bool, ∀ x ∈ R.filter f, x ∈ R := fun f x hx => (List.mem_filter.1 hx).1
  by_cases bc : bothR c R = true
  · by_cases bd : bothR d R = true
    · have one : ∀ {a b : Int × Int} (f : Int → Bool), bothR b R = true → (f b.1 && f b.2) = false → splitR b (R.filter f) = [R.filter f] := fun f hb hf => splitR_no (by rw [bothR_filter, hb, hf]; rfl)
      have two : ∀ (b : Int × Int) (f : Int → Bool), bothR b R = true → (f b.1 && f b.2) = true → splitR b (R.filter f) = [(R.filter f).filter (inS b), (R.filter f).filter (outS b)] := fun b f hb hf => splitR_yes (by rw [bothR_filter, hb, hf]; rfl)
      rw [splitR_yes bc, splitR_yes bd, flat_two, flat_two]
      have ne : ¬ (c.1 = d.1 ∧ c.2 = d.2) := fun e => h.1 (Prod.ext e.1 e.2)
      have dec : ∀ (x y : Bool), (x = true ↔ y = true) → x = y := fun x y h => Bool.eq_iff_iff.2 h
      rcases sides_of hc hd h with ⟨g1, g2⟩ | ⟨g1, g2⟩ <;> rcases sides_of hd hc h.symm with ⟨k1, k2⟩ | ⟨k1, k2⟩
      · exfalso
        rw [Bool.and_eq_true, inS_iff, inS_iff] at g1 k1
        exact ne ⟨by omega, by omega⟩
      · rw [two d _ bd g1, one (a := d) _ bd g2, one (a := c) _ bc k1, two c _ bc k2]
        rw [Bool.and_eq_true, inS_iff, inS_iff] at g1
        rw [filter_two R (inS c) (inS d) (inS d) (fun x => dec _ _ (by rw [Bool.and_eq_true, inS_iff, inS_iff]; omega)),
          filter_two R (inS c) (outS d) (fun x => inS c x && outS d x) (fun x => Bool.and_comm _ _),
          filter_two R (outS d) (inS c) (fun x => inS c x && outS d x) (fun x => rfl),
          filter_two R (outS d) (outS c) (outS c) (fun x => dec _ _ (by rw [Bool.and_eq_true, outS_iff, outS_iff]; omega))]
        exact List.Perm.refl _
      · rw [one (a := d) _ bd g1, two d _ bd g2, two c _ bc k1, one (a := c) _ bc k2]
        rw [Bool.and_eq_true, inS_iff, inS_iff] at k1
        rw [filter_two R (inS d) (inS c) (inS c) (fun x => dec _ _ (by rw [Bool.and_eq_true, inS_iff, inS_iff]; omega)),
          filter_two R (inS d) (outS c) (fun x => outS c x && inS d x) (fun x => rfl),
          filter_two R (outS c) (inS d) (fun x => outS c x && inS d x) (fun x => Bool.and_comm _ _),
          filter_two R (outS c) (outS d) (outS d) (fun x => dec _ _ (by rw [Bool.and_eq_true, outS_iff, outS_iff]; omega))]
        exact List.Perm.refl _
      · rw [one (a := d) _ bd g1, two d _ bd g2, one (a := c) _ bc k1, two c _ bc k2]
        rw [Bool.and_eq_true, outS_iff, outS_iff] at g2 k2
        have g3 : ¬ (c.1 ≤ d.1 ∧ d.1 ≤ c.2 ∧ c.1 ≤ d.2 ∧ d.2 ≤ c.2) := fun e => by
          rw [← Bool.not_eq_true, Bool.and_eq_true, inS_iff, inS_iff] at g1; omega
        have k3 : ¬ (d.1 ≤ c.1 ∧ c.1 ≤ d.2 ∧ d.1 ≤ c.2 ∧ c.2 ≤ d.2) := fun e => by
          rw [← Bool.not_eq_true, Bool.and_eq_true, inS_iff, inS_iff] at k1; omega
        rw [filter_two R (outS d) (inS c) (inS c) (fun x => dec _ _ (by rw [Bool.and_eq_true, inS_iff, outS_iff]; omega)),
          filter_two R (outS d) (outS c) (fun x => outS c x && outS d x) (fun x => rfl),
          filter_two R (outS c) (inS d) (inS d) (fun x => dec _ _ (by rw [Bool.and_eq_true, inS_iff, outS_iff]; omega)),
          filter_two R (outS c) (outS d) (fun x => outS c x && outS d x) (fun x => Bool.and_comm _ _)]
        exact List.Perm.swap _ _ _
    · have bd' : bothR d R = false := by simpa using bd
      rw [splitR_yes bc, splitR_no bd', flat_two, flat_one, splitR_yes bc, splitR_no (bothR_sub (sub _) bd'), splitR_no (bothR_sub (sub _) bd')]
      exact List.Perm.refl _
  · have bc' : bothR c R = false := by simpa using bc
    rw [splitR_no bc', flat_one]
    by_cases bd : bothR d R = true
    · rw [splitR_yes bd, flat_two, splitR_no (bothR_sub (sub _) bc'), splitR_no (bothR_sub (sub _) bc')]
      exact List.Perm.refl _
    · have bd' : bothR d R = false := by simpa using bd
      rw [splitR_no bd', flat_one, splitR_no bc']

theorem splitF_cons (R : List Int) (L : List (List Int)) (c : Int × Int) : splitF (R :: L) c = splitR c R ++ splitF L c := by simp [splitF]

theorem splitF_comm {c d : Int × Int} (hc : c.1 < c.2) (hd : d.1 < d.2) (h : Apart c d) (L : List (List Int)) : (splitF (splitF L c) d).Perm (splitF (splitF L d) c) := by
  induction L with
  | nil => exact List.Perm.refl _
  | cons R L ih =>
    rw [splitF_cons, splitF_cons, splitF_append, splitF_append]
    exact (splitR_comm hc hd h R).append ih

theorem splitF_perm {L M : List (List Int)} (h : L.Perm M) (c : Int × Int) : (splitF L c).Perm (splitF M c) := h.flatMap_right _

theorem regsF_perm (cs : List (Int × Int)) : ∀ {L M : List (List Int)}, L.Perm M → (regsF L cs).Perm (regsF M cs) := by
  induction cs with
  | nil => intro L M h; exact h
  | cons c cs ih => intro L M h; exact ih (splitF_perm h c)

theorem regsF_last {c : Int × Int} (hc : c.1 < c.2) (cs : List (Int × Int)) : (∀ d ∈ cs, d.1 < d.2 ∧ Apart c d) → ∀ L : List (List Int), (regsF L (c :: cs)).Perm (splitF (regsF L cs) c) := by
  induction cs with
  | nil => intro _ L; exact List.Perm.refl _
  | cons d cs ih =>
    intro h L
    have h1 := h d (by simp)
    have e : regsF L (c :: d :: cs) = regsF (splitF (splitF L c) d) cs := rfl
    rw [e]
    refine (regsF_perm cs (splitF_comm hc h1.1 h1.2 L)).trans ?_
    exact ih (fun x hx => h x (by simp [hx])) (splitF L d)

/-- A chord out of the middle may come last. -/
theorem regsF_mid {c : Int × Int} (hc : c.1 < c.2) (ys zs : List (Int × Int)) (h : ∀ d ∈ zs, d.1 < d.2 ∧ Apart c d) (L : List (List Int)) : (regsF L (ys ++ c :: zs)).Perm (splitF (regsF L (ys ++ zs)) c) := by
  have e1 : regsF L (ys ++ c :: zs) = regsF (regsF L ys) (c :: zs) := by simp [regsF]
  have e2 : regsF L (ys ++ zs) = regsF (regsF L ys) zs := by simp [regsF]
  rw [e1, e2]
  exact regsF_last hc zs h _

/-- The points of a region go up, and neighbours are joined by an arc or a chord. -/
structure Nb (n : Int) (cs : List (Int × Int)) (R : List Int) : Prop where
  up : R.Pairwise (· < ·)
  next : ∀ a ∈ R, ∀ b ∈ R, a < b → (∀ x ∈ R, ¬ (a < x ∧ x < b)) → b = a + 1 ∨ (a, b) ∈ cs
  ends : ∀ a ∈ R, ∀ b ∈ R, a < b → (∀ x ∈ R, ¬ (x < a ∨ b < x)) → (a = 0 ∧ b = n - 1) ∨ (a, b) ∈ cs

theorem Nb.more {n : Int} {cs ds : List (Int × Int)} {R : List Int} (h : Nb n cs R) (hs : ∀ d ∈ cs, d ∈ ds) : Nb n ds R :=
  ⟨h.up, fun a ha b hb hab hn => (h.next a ha b hb hab hn).imp id (hs _), fun a ha b hb hab hn => (h.ends a ha b hb hab hn).imp id (hs _)⟩

theorem Nb.inside {n : Int} {cs : List (Int × Int)} {R : List Int} {c : Int × Int} (h : Nb n cs R) (hb : bothR c R = true) : Nb n (cs ++ [c]) (R.filter (inS c)) := by
  obtain ⟨h1, h2⟩ := (bothR_iff _ _).1 hb
  have m : ∀ x, x ∈ R.filter (inS c) ↔ x ∈ R ∧ c.1 ≤ x ∧ x ≤ c.2 := fun x => by rw [List.mem_filter, inS_iff]
  refine ⟨h.up.sublist List.filter_sublist, fun a ha b hb hab hn => ?_, fun a ha b hb hab hn => ?_⟩
  · rw [m] at ha hb
    refine (h.next a ha.1 b hb.1 hab fun x hx hx2 => hn x ((m x).2 ⟨hx, by omega, by omega⟩) hx2).imp id fun z => by simp [z]
  · rw [m] at ha hb
    have e1 := hn c.1 ((m _).2 ⟨h1, by omega, by omega⟩)
    have e2 := hn c.2 ((m _).2 ⟨h2, by omega, by omega⟩)
    have : (a, b) = c := Prod.ext (by show a = c.1; omega) (by show b = c.2; omega)
    rw [this]
    simp

theorem Nb.outside {n : Int} {cs : List (Int × Int)} {R : List Int} {c : Int × Int} (h : Nb n cs R) (hc : c.1 < c.2) (hb : bothR c R = true) : Nb n (cs ++ [c]) (R.filter (outS c)) := by
  obtain ⟨h1, h2⟩ := (bothR_iff _ _).1 hb
  have m : ∀ x, x ∈ R.filter (outS c) ↔ x ∈ R ∧ (x ≤ c.1 ∨ c.2 ≤ x) := fun x => by rw [List.mem_filter, outS_iff]
  have m1 := (m c.1).2 ⟨h1, by omega⟩
  have m2 := (m c.2).2 ⟨h2, by omega⟩
  refine ⟨h.up.sublist List.filter_sublist, fun a ha b hb hab hn => ?_, fun a ha b hb hab hn => ?_⟩
  · rw [m] at ha hb
    have e1 := hn c.1 m1
    have e2 := hn c.2 m2
    by_cases hcase : a ≤ c.1 ∧ c.2 ≤ b
    · have : (a, b) = c := Prod.ext (by show a = c.1; omega) (by show b = c.2; omega)
      rw [this]
      simp
    · refine (h.next a ha.1 b hb.1 hab fun x hx hx2 => hn x ((m x).2 ⟨hx, by omega⟩) hx2).imp id fun z => by simp [z]
  · rw [m] at ha hb
    have e1 := hn c.1 m1
    have e2 := hn c.2 m2
    refine (h.ends a ha.1 b hb.1 hab fun x hx hx2 => ?_).imp id fun z => by simp [z]
    by_cases hx3 : x ≤ c.1 ∨ c.2 ≤ x
    · exact hn x ((m x).2 ⟨hx, hx3⟩) hx2
    · omega

theorem Nb.split {n : Int} {cs : List (Int × Int)} {L : List (List Int)} {c : Int × Int} (h : ∀ R ∈ L, Nb n cs R) (hc : c.1 < c.2) : ∀ R ∈ splitF L c, Nb n (cs ++ [c]) R := by
  intro S hS
  obtain ⟨R, hR, hSR⟩ := List.mem_flatMap.1 hS
  by_cases hb : bothR c R = true
  · rw [splitR_yes hb] at hSR
    simp at hSR
    rcases hSR with rfl | rfl
    · exact (h R hR).inside hb
    · exact (h R hR).outside hc hb
  · rw [splitR_no (by simpa using hb)] at hSR
    simp at hSR
    subst hSR
    exact (h S hR).more fun d hd => by simp [hd]

theorem nb_regs {n : Int} (ds : List (Int × Int)) : ∀ (cs : List (Int × Int)) (L : List (List Int)), (∀ R ∈ L, Nb n cs R) → (∀ d ∈ ds, d.1 < d.2) → ∀ R ∈ regsF L ds, Nb n (cs ++ ds) R := by
  induction ds with
  | nil => intro cs L h _; rw [List.append_nil]; exact h
  | cons d ds ih =>
    intro cs L h hd R hR
    have := ih (cs ++ [d]) (splitF L d) (Nb.split h (hd d (by simp))) (fun x hx => hd x (by simp [hx])) R hR
    simpa using this

/-- Three points that go up are three of a region. -/
theorem three_len {R : List Int} {a b c : Int} (ha : a ∈ R) (hb : b ∈ R) (hc : c ∈ R) (h1 : a < b) (h2 : b < c) : 3 ≤ R.length := by
  have e1 := List.length_erase_of_mem ha
  have hb' : b ∈ R.erase a := (List.mem_erase_of_ne (by omega)).2 hb
  have e2 := List.length_erase_of_mem hb'
  have hc' : c ∈ (R.erase a).erase b := (List.mem_erase_of_ne (by omega)).2 ((List.mem_erase_of_ne (by omega)).2 hc)
  have e3 := List.length_pos_of_mem hc'
  omega

/-- Are the points of a chord not one behind the other, around? -/
def Diag (n : Int) (c : Int × Int) : Prop := c.1 + 1 < c.2 ∧ c.2 - c.1 < n - 1

theorem diag_three {n : Int} {cs : List (Int × Int)} {R : List Int} {c : Int × Int} (h : Nb n cs R) (hd : Diag n c) (hm : c ∉ cs) (hb : bothR c R = true) : 3 ≤ (R.filter (inS c)).length ∧ 3 ≤ (R.filter (outS c)).length := by
  obtain ⟨h1, h2⟩ := (bothR_iff _ _).1 hb
  obtain ⟨d1, d2⟩ := hd
  have hc : c.1 < c.2 := by omega
  constructor
  · have : ¬ ∀ x ∈ R, ¬ (c.1 < x ∧ x < c.2) := fun hn => by
      rcases h.next c.1 h1 c.2 h2 hc hn with e | e
      · omega
      · exact hm e
    obtain ⟨x, hx, hx2⟩ : ∃ x ∈ R, c.1 < x ∧ x < c.2 := by
      refine Classical.byContradiction fun hno => this fun x hx hx2 => hno ⟨x, hx, hx2⟩
    exact three_len (a := c.1) (b := x) (c := c.2) (List.mem_filter.2 ⟨h1, (inS_iff _ _).2 (by omega)⟩) (List.mem_filter.2 ⟨hx, (inS_iff _ _).2 (by omega)⟩) (List.mem_filter.2 ⟨h2, (inS_iff _ _).2 (by omega)⟩) (by omega) (by omega)
  · have : ¬ ∀ x ∈ R, ¬ (x < c.1 ∨ c.2 < x) := fun hn => by
      rcases h.ends c.1 h1 c.2 h2 hc hn with e | e
      · omega
      · exact hm e
    obtain ⟨x, hx, hx2⟩ : ∃ x ∈ R, x < c.1 ∨ c.2 < x := by
      refine Classical.byContradiction fun hno => this fun x hx hx2 => hno ⟨x, hx, hx2⟩
    have m1 : c.1 ∈ R.filter (outS c) := List.mem_filter.2 ⟨h1, (outS_iff _ _).2 (by omega)⟩
    have m2 : c.2 ∈ R.filter (outS c) := List.mem_filter.2 ⟨h2, (outS_iff _ _).2 (by omega)⟩
    have m3 : x ∈ R.filter (outS c) := List.mem_filter.2 ⟨hx, (outS_iff _ _).2 (by omega)⟩
    rcases hx2 with hx2 | hx2
    · exact three_len m3 m1 m2 hx2 hc
    · exact three_len m1 m2 m3 hc hx2

/-- Where all chords are diagonals each region has three points at least. -/
theorem regs_three {n : Int} (ds : List (Int × Int)) : ∀ (cs : List (Int × Int)) (L : List (List Int)), (∀ R ∈ L, Nb n cs R) → (∀ R ∈ L, 3 ≤ R.length) → (∀ d ∈ ds, Diag n d ∧ d ∉ cs) → ds.Pairwise (· ≠ ·) → ∀ R ∈ regsF L ds, 3 ≤ R.length := by
  induction ds with
  | nil => intro cs L _ h _ _; exact h
  | cons d ds ih =>
    intro cs L hN hL hd hp
    have h1 := hd d (by simp)
    have h2 := List.pairwise_cons.1 hp
    refine ih (cs ++ [d]) (splitF L d) (Nb.split hN (by have := h1.1.1; omega)) (fun S hS => ?_) (fun x hx => ⟨(hd x (by simp [hx])).1, fun hm => ?_⟩) h2.2
    · obtain ⟨R, hR, hSR⟩ := List.mem_flatMap.1 hS
      by_cases hb : bothR d R = true
      · have h3 := diag_three (hN R hR) h1.1 h1.2 hb
        rw [splitR_yes hb] at hSR
        simp at hSR
        rcases hSR with rfl | rfl
        · exact h3.1
        · exact h3.2
      · rw [splitR_no (by simpa using hb)] at hSR
        simp at hSR
        subst hSR
        exact hL S hR
    · rcases List.mem_append.1 hm with hm | hm
      · exact (hd x (by simp [hx])).2 hm
      · simp at hm
        exact h2.1 x hx hm.symm
end Go.Proofs.Ytnldnjgnpdicnaa

namespace Go.Proofs.Ytnldnjgnpdicnaa

theorem filter_yes1 {R : List Int} {x : Int} {f : Int → Bool} (h : f x = true) : (x :: R).filter f = x :: R.filter f := List.filter_cons_of_pos h
theorem filter_no1 {R : List Int} {x : Int} {f : Int → Bool} (h : f x = false) : (x :: R).filter f = R.filter f := List.filter_cons_of_neg (by rw [h]; exact Bool.false_ne_true)

theorem count_both (R : List Int) (f g : Int → Bool) (h : ∀ x ∈ R, (f x || g x) = true) : (R.filter f).length + (R.filter g).length = R.length + (R.filter fun x => f x && g x).length := by
  induction R with
  | nil => rfl
  | cons x R ih =>
    have h1 := ih fun y hy => h y (by simp [hy])
    have h2 := h x (by simp)
    cases hf : f x <;> cases hg : g x
    · rw [hf, hg] at h2; cases h2
    · rw [filter_no1 hf, filter_yes1 hg, filter_no1 (f := fun x => f x && g x) (by simp [hf]), List.length_cons, List.length_cons]; omega
    · rw [filter_yes1 hf, filter_no1 hg, filter_no1 (f := fun x => f x && g x) (by simp [hg]), List.length_cons, List.length_cons]; omega
    · rw [filter_yes1 hf, filter_yes1 hg, filter_yes1 (f := fun x => f x && g x) (by simp [hf, hg]), List.length_cons, List.length_cons, List.length_cons, List.length_cons]; omega

theorem filter_is {R : List Int} (hn : R.Nodup) {z : Int} (hz : z ∈ R) : (R.filter fun x => decide (x = z)).length = 1 := by
  induction R with
  | nil => cases hz
  | cons x R ih =>
    obtain ⟨h1, h2⟩ := List.nodup_cons.1 hn
    by_cases e : x = z
    · have : R.filter (fun x => decide (x = z)) = [] := List.filter_eq_nil_iff.2 fun y hy hy2 => h1 (by rw [e, ← of_decide_eq_true hy2]; exact hy)
      rw [filter_yes1 (decide_eq_true e), this]
      rfl
    · rw [filter_no1 (decide_eq_false e)]
      exact ih h2 ((List.mem_cons.1 hz).resolve_left fun e2 => e e2.symm)

theorem count_two (R : List Int) (hn : R.Nodup) {a b : Int} (hab : a ≠ b) (ha : a ∈ R) (hb : b ∈ R) : (R.filter fun x => decide (x = a ∨ x = b)).length = 2 := by
  have h := count_both (R.filter fun x => decide (x = a ∨ x = b)) (fun x => decide (x = a)) (fun x => decide (x = b)) fun x hx => by
    have := of_decide_eq_true (List.mem_filter.1 hx).2
    rw [Bool.or_eq_true, decide_eq_true_eq, decide_eq_true_eq]; exact this
  have e1 : (R.filter fun x => decide (x = a ∨ x = b)).filter (fun x => decide (x = a)) = R.filter fun x => decide (x = a) := filter_two R _ _ _ fun x => by
    rw [Bool.eq_iff_iff, Bool.and_eq_true, decide_eq_true_eq, decide_eq_true_eq]; exact ⟨fun z => z.1, fun z => ⟨z, .inl z⟩⟩
  have e2 : (R.filter fun x => decide (x = a ∨ x = b)).filter (fun x => decide (x = b)) = R.filter fun x => decide (x = b) := filter_two R _ _ _ fun x => by
    rw [Bool.eq_iff_iff, Bool.and_eq_true, decide_eq_true_eq, decide_eq_true_eq]; exact ⟨fun z => z.1, fun z => ⟨z, .inr z⟩⟩
  have e3 : (R.filter fun x => decide (x = a ∨ x = b)).filter (fun x => decide (x = a) && decide (x = b)) = [] := List.filter_eq_nil_iff.2 fun x _ hx => by
    rw [Bool.and_eq_true, decide_eq_true_eq, decide_eq_true_eq] at hx
    exact hab (hx.1.symm.trans hx.2)
  rw [e1, e2, e3, filter_is hn ha, filter_is hn hb] at h
  exact h.symm

theorem up_nodup {R : List Int} (h : R.Pairwise (· < ·)) : R.Nodup := h.imp fun {a b} hab => by show a ≠ b; omega

theorem len_split {R : List Int} {c : Int × Int} (hu : R.Pairwise (· < ·)) (hc : c.1 < c.2) (hb : bothR c R = true) : (R.filter (inS c)).length + (R.filter (outS c)).length = R.length + 2 := by
  obtain ⟨h1, h2⟩ := (bothR_iff _ _).1 hb
  rw [count_both R (inS c) (outS c) fun x _ => by rw [Bool.or_eq_true, inS_iff, outS_iff]; omega]
  have e : R.filter (fun x => inS c x && outS c x) = R.filter fun x => decide (x = c.1 ∨ x = c.2) := List.filter_congr fun x _ => by
    rw [Bool.eq_iff_iff, Bool.and_eq_true, inS_iff, outS_iff, decide_eq_true_eq]; omega
  rw [e, count_two R (up_nodup hu) (by omega) h1 h2]

def sumL (L : List (List Int)) : Nat := (L.map List.length).sum
theorem sumL_cons (R : List Int) (L : List (List Int)) : sumL (R :: L) = R.length + sumL L := by simp [sumL]
theorem sumL_append (L M : List (List Int)) : sumL (L ++ M) = sumL L + sumL M := by simp [sumL]

theorem sum_split {L : List (List Int)} {c : Int × Int} (hu : ∀ R ∈ L, R.Pairwise (· < ·)) (hc : c.1 < c.2) : sumL (splitF L c) = sumL L + 2 * numR c L ∧ (splitF L c).length = L.length + numR c L := by
  induction L with
  | nil => exact ⟨rfl, rfl⟩
  | cons R L ih =>
    obtain ⟨h1, h2⟩ := ih fun S hS => hu S (by simp [hS])
    rw [splitF_cons, sumL_append, sumL_cons, numR_cons, List.length_append, List.length_cons, h1, h2]
    by_cases hb : bothR c R = true
    · have := len_split (hu R (by simp)) hc hb
      rw [splitR_yes hb, if_pos hb]
      have e : sumL [R.filter (inS c), R.filter (outS c)] = (R.filter (inS c)).length + (R.filter (outS c)).length := by simp [sumL]
      rw [e]
      simp only [List.length_cons, List.length_nil]
      omega
    · rw [splitR_no (by simpa using hb), if_neg hb]
      have e : sumL [R] = R.length := by simp [sumL]
      rw [e]
      simp only [List.length_cons, List.length_nil]
      omega

theorem up_split {L : List (List Int)} {c : Int × Int} (hu : ∀ R ∈ L, R.Pairwise (· < ·)) : ∀ R ∈ splitF L c, R.Pairwise (· < ·) := by
  intro S hS
  obtain ⟨R, hR, hSR⟩ := List.mem_flatMap.1 hS
  by_cases hb : bothR c R = true
  · rw [splitR_yes hb] at hSR
    simp at hSR
    rcases hSR with rfl | rfl <;> exact (hu R hR).sublist List.filter_sublist
  · rw [splitR_no (by simpa using hb)] at hSR
    simp at hSR
    exact hSR ▸ hu R hR

theorem sum_regs (ds : List (Int × Int)) : ∀ L : List (List Int), (∀ R ∈ L, R.Pairwise (· < ·)) → (∀ d ∈ ds, d.1 < d.2 ∧ numR d L = 1) → ds.Pairwise Apart → sumL (regsF L ds) = sumL L + 2 * ds.length ∧ (regsF L ds).length = L.length + ds.length := by
  induction ds with
  | nil => intro L _ _ _; exact ⟨rfl, rfl⟩
  | cons d ds ih =>
    intro L hu hd hp
    obtain ⟨p1, p2⟩ := List.pairwise_cons.1 hp
    have h1 := hd d (by simp)
    obtain ⟨s1, s2⟩ := sum_split hu h1.1
    obtain ⟨i1, i2⟩ := ih (splitF L d) (up_split hu) (fun x hx => ⟨(hd x (by simp [hx])).1, by rw [numR_splitF h1.1 (hd x (by simp [hx])).1 (p1 x hx)]; exact (hd x (by simp [hx])).2⟩) p2
    rw [regsF_cons, i1, i2, s1, s2, h1.2, List.length_cons]
    exact ⟨by omega, by omega⟩

theorem all_three {L : List (List Int)} (h : ∀ R ∈ L, 3 ≤ R.length) (hs : sumL L = 3 * L.length) : ∀ R ∈ L, R.length = 3 := by
  have least : ∀ L : List (List Int), (∀ R ∈ L, 3 ≤ R.length) → 3 * L.length ≤ sumL L := by
    intro L
    induction L with
    | nil => intro _; exact Nat.le_refl _
    | cons R L ih =>
      intro h
      have h1 := h R (by simp)
      have h2 := ih fun S hS => h S (by simp [hS])
      rw [sumL_cons, List.length_cons]
      omega
  induction L with
  | nil => intro R hR; cases hR
  | cons R L ih =>
    have h1 := h R (by simp)
    have h2 := least L fun S hS => h S (by simp [hS])
    rw [sumL_cons, List.length_cons] at hs
    intro S hS
    rcases List.mem_cons.1 hS with rfl | hS
    · omega
    · exact ih (fun S hS => h S (by simp [hS])) (by omega) S hS

/-- The point of a region that is on neither end of a chord: the first one. -/
def crnR (c : Int × Int) (S : List Int) : Int := S.getD (S.findIdx fun p => decide (p ≠ c.1 ∧ p ≠ c.2)) 0

/-- A region of four points that a chord parts into two of three. -/
theorem four_of {R : List Int} {c : Int × Int} (hu : R.Pairwise (· < ·)) (hc : c.1 < c.2) (hb : bothR c R = true) (hi : (R.filter (inS c)).length = 3) (ho : (R.filter (outS c)).length = 3) :
    ∃ a b d e : Int, R = [a, b, d, e] ∧ (a < b ∧ b < d ∧ d < e) ∧
      ((c = (a, d) ∧ R.filter (inS c) = [a, b, d] ∧ R.filter (outS c) = [a, d, e] ∧ crnR c [a, b, d] = b ∧ crnR c [a, d, e] = e) ∨
       (c = (b, e) ∧ R.filter (inS c) = [b, d, e] ∧ R.filter (outS c) = [a, b, e] ∧ crnR c [b, d, e] = d ∧ crnR c [a, b, e] = a)) := by
  have hl := len_split hu hc hb
  have h4 : R.length = 4 := by omega
  obtain ⟨a, b, d, e, rfl⟩ : ∃ a b d e, R = [a, b, d, e] := by
    match R, h4 with
    | [a, b, d, e], _ => exact ⟨a, b, d, e, rfl⟩
  simp only [List.pairwise_cons, List.mem_cons, List.not_mem_nil, or_false, forall_eq_or_imp, forall_eq, List.Pairwise.nil, and_true, false_implies, implies_true] at hu
  obtain ⟨⟨u1, u2, u3⟩, ⟨u4, u5⟩, u6⟩ := hu
  obtain ⟨h1, h2⟩ := (bothR_iff _ _).1 hb
  obtain ⟨x, y⟩ := c
  simp only [List.mem_cons, List.not_mem_nil, or_false] at h1 h2 hc
  refine ⟨a, b, d, e, rfl, ⟨u1, u4, u6⟩, ?_⟩
  have yes : ∀ {p : Prop} [Decidable p], p → decide p = true := fun h => decide_eq_true h
  have no : ∀ {p : Prop} [Decidable p], ¬ p → decide p = false := fun h => decide_eq_false h
  have F : ∀ (f : Int → Bool) (i j k l : Bool), f a = i → f b = j → f d = k → f e = l → [a, b, d, e].filter f = (if i then [a] else []) ++ (if j then [b] else []) ++ (if k then [d] else []) ++ (if l then [e] else []) := by
    intro f i j k l h1 h2 h3 h4
    cases i <;> cases j <;> cases k <;> cases l <;> simp [h1, h2, h3, h4]
  rcases h1 with rfl | rfl | rfl | rfl <;> rcases h2 with rfl | rfl | rfl | rfl <;> first
    | (exfalso; omega)
    | (exfalso; rw [F (inS _) true true false false (yes (by simp only; omega)) (yes (by simp only; omega)) (no (by simp only; omega)) (no (by simp only; omega))] at hi; simp at hi; done)
    | (exfalso; rw [F (inS _) false true true false (no (by simp only; omega)) (yes (by simp only; omega)) (yes (by simp only; omega)) (no (by simp only; omega))] at hi; simp at hi; done)
    | (exfalso; rw [F (inS _) false false true true (no (by simp only; omega)) (no (by simp only; omega)) (yes (by simp only; omega)) (yes (by simp only; omega))] at hi; simp at hi; done)
    | (exfalso; rw [F (inS _) true true true true (yes (by simp only; omega)) (yes (by simp only; omega)) (yes (by simp only; omega)) (yes (by simp only; omega))] at hi; simp at hi; done)
    | (left
       refine ⟨rfl, (F (inS _) true true true false (yes (by simp only; omega)) (yes (by simp only; omega)) (yes (by simp only; omega)) (no (by simp only; omega))).trans (by simp), (F (outS _) true false true true (yes (by simp only; omega)) (no (by simp only; omega)) (yes (by simp only; omega)) (yes (by simp only; omega))).trans (by simp), ?_, ?_⟩
       · unfold crnR
         rw [List.findIdx_cons, no (by simp only; omega), List.findIdx_cons, yes (by simp only; omega)]
         rfl
       · unfold crnR
         rw [List.findIdx_cons, no (by simp only; omega), List.findIdx_cons, no (by simp only; omega), List.findIdx_cons, yes (by simp only; omega)]
         rfl)
    | (right
       refine ⟨rfl, (F (inS _) false true true true (no (by simp only; omega)) (yes (by simp only; omega)) (yes (by simp only; omega)) (yes (by simp only; omega))).trans (by simp), (F (outS _) true true false true (yes (by simp only; omega)) (yes (by simp only; omega)) (no (by simp only; omega)) (yes (by simp only; omega))).trans (by simp), ?_, ?_⟩
       · unfold crnR
         rw [List.findIdx_cons, no (by simp only; omega), List.findIdx_cons, yes (by simp only; omega)]
         rfl
       · unfold crnR
         rw [List.findIdx_cons, yes (by simp only; omega)]
         rfl)
end Go.Proofs.Ytnldnjgnpdicnaa

namespace Go.Proofs.Ytnldnjgnpdicnaa

theorem numR_filter (c : Int × Int) (L : List (List Int)) : numR c L = (L.filter (bothR c)).length := by unfold numR; rw [List.countP_eq_length_filter]

theorem filter_split {c : Int × Int} (hc : c.1 < c.2) (L : List (List Int)) : (splitF L c).filter (bothR c) = (L.filter (bothR c)).flatMap fun R => [R.filter (inS c), R.filter (outS c)] := by
  induction L with
  | nil => rfl
  | cons R L ih =>
    rw [splitF_cons, List.filter_append, ih]
    have e1 : (inS c c.1 && inS c c.2) = true := by simp [inS]; omega
    have e2 : (outS c c.1 && outS c c.2) = true := by simp [outS]
    by_cases hb : bothR c R = true
    · have b1 : bothR c (R.filter (inS c)) = true := by rw [bothR_filter, hb, e1]; rfl
      have b2 : bothR c (R.filter (outS c)) = true := by rw [bothR_filter, hb, e2]; rfl
      rw [splitR_yes hb, List.filter_cons_of_pos hb, List.flatMap_cons, List.filter_cons_of_pos b1, List.filter_cons_of_pos b2]
      rfl
    · rw [splitR_no (by simpa using hb), List.filter_cons_of_neg hb, List.filter_cons_of_neg hb]
      rfl

theorem perm_two {α : Type} {a b : α} {l : List α} (h : l.Perm [a, b]) : l = [a, b] ∨ l = [b, a] := by
  have hl := h.length_eq
  match l, hl with
  | [x, y], _ =>
    have hx : x ∈ [a, b] := h.mem_iff.1 (by simp)
    have hy : y ∈ [a, b] := h.mem_iff.1 (by simp)
    have ha : a ∈ [x, y] := h.mem_iff.2 (by simp)
    have hb : b ∈ [x, y] := h.mem_iff.2 (by simp)
    simp at hx hy ha hb
    rcases hx with rfl | rfl
    · rcases hb with rfl | rfl
      · rcases hy with rfl | rfl <;> simp
      · simp
    · rcases ha with rfl | rfl
      · rcases hy with rfl | rfl <;> simp
      · simp

/-- What is true of a set that leaves triangles, one of its chords taken out. W: all points. -/
theorem flip_facts {n : Nat} {W : List Int} {xs ys zs : List (Int × Int)} {c : Int × Int} (hW : Nb n [] W) (hWn : W.length = n) (h3 : 3 ≤ n) (hx : xs = ys ++ c :: zs) (hlt : ∀ d ∈ xs, d.1 < d.2) (hp : xs.Pairwise Apart) (hb : ∀ d ∈ xs, bothR d W = true)
    (hd : ∀ d ∈ xs, Diag n d) (hl : xs.length + 3 = n) {T : List (List Int)} (hT : T.Perm (regsF [W] xs)) :
    ∃ a b d e : Int, (a < b ∧ b < d ∧ d < e) ∧ [a, b, d, e] ∈ regsF [W] (ys ++ zs) ∧ (∀ S ∈ regsF [W] (ys ++ zs), bothR c S = true → S = [a, b, d, e]) ∧ bothR c [a, b, d, e] = true ∧ (∀ S ∈ T, bothR c S = true → ∃ p ∈ S, p ≠ c.1 ∧ p ≠ c.2) ∧
      ((c = (a, d) ∧ ∃ u v, (T.filter (bothR c)).map (crnR c) = [u, v] ∧ ((u = b ∧ v = e) ∨ (u = e ∧ v = b))) ∨ (c = (b, e) ∧ ∃ u v, (T.filter (bothR c)).map (crnR c) = [u, v] ∧ ((u = a ∧ v = d) ∨ (u = d ∧ v = a)))) := by
  subst hx
  have hc : c.1 < c.2 := hlt c (by simp)
  obtain ⟨p1, p2, p3⟩ := List.pairwise_append.1 hp
  obtain ⟨p4, p5⟩ := List.pairwise_cons.1 p2
  -- all regions have three points
  have hWu : ∀ R ∈ [W], R.Pairwise (· < ·) := fun R hR => by simp at hR; exact hR ▸ hW.up
  have one : ∀ d : Int × Int, bothR d W = true → numR d [W] = 1 := fun d h => by simp [numR, h]
  obtain ⟨s1, s2⟩ := sum_regs (ys ++ c :: zs) [W] hWu (fun d hd2 => ⟨hlt d hd2, one d (hb d hd2)⟩) hp
  have t3 := regs_three (n := n) (ys ++ c :: zs) [] [W] (fun R hR => by simp at hR; exact hR ▸ hW) (fun R hR => by simp at hR; subst hR; omega) (fun d hd2 => ⟨hd d hd2, by simp⟩) (hp.imp fun h => h.1)
  have hsum : sumL [W] = n := by simp [sumL, hWn]
  have all := all_three t3 (by rw [s1, s2, hsum]; simp only [List.length_cons, List.length_nil]; omega)
  -- the one region of the rest with both ends
  have hlast := regsF_mid hc ys zs (fun d hd2 => ⟨hlt d (by simp [hd2]), p4 d hd2⟩) [W]
  have hnum : numR c (regsF [W] (ys ++ zs)) = 1 := by
    rw [numR_regs hc (ys ++ zs) [W] (fun d hd2 => ?_)]
    · exact one c (hb c (by simp))
    · rcases List.mem_append.1 hd2 with h | h
      · exact ⟨hlt d (by simp [h]), p3 d h c (by simp)⟩
      · exact ⟨hlt d (by simp [h]), (p4 d h).symm⟩
  rw [numR_filter] at hnum
  obtain ⟨R, hR⟩ : ∃ R, (regsF [W] (ys ++ zs)).filter (bothR c) = [R] := List.length_eq_one_iff.1 hnum
  have hRm : R ∈ (regsF [W] (ys ++ zs)).filter (bothR c) := by rw [hR]; simp
  obtain ⟨m1, m2⟩ := List.mem_filter.1 hRm
  have hRu : R.Pairwise (· < ·) := (nb_regs (n := n) (ys ++ zs) [] [W] (fun R hR => by simp at hR; exact hR ▸ hW) (fun d hd2 => hlt d (by rcases List.mem_append.1 hd2 with h | h <;> simp [h])) R m1).up
  have hsp : (splitF (regsF [W] (ys ++ zs)) c).filter (bothR c) = [R.filter (inS c), R.filter (outS c)] := by rw [filter_split hc, hR]; rfl
  have mem : ∀ S, S ∈ [R.filter (inS c), R.filter (outS c)] → S.length = 3 := fun S hS => by
    rw [← hsp] at hS
    exact all S (hlast.mem_iff.2 (List.mem_filter.1 hS).1)
  obtain ⟨a, b, d, e, rfl, hord, hcase⟩ := four_of hRu hc m2 (mem _ (by simp)) (mem _ (by simp))
  have hTf : (T.filter (bothR c)).Perm [[a, b, d, e].filter (inS c), [a, b, d, e].filter (outS c)] := by
    rw [← hsp]
    exact (hT.trans hlast).filter _
  refine ⟨a, b, d, e, hord, m1, fun S hS hbS => ?_, m2, fun S hS hbS => ?_, ?_⟩
  · have : S ∈ (regsF [W] (ys ++ zs)).filter (bothR c) := List.mem_filter.2 ⟨hS, hbS⟩
    rw [hR] at this
    simpa using this
  · have hSm : S ∈ T.filter (bothR c) := List.mem_filter.2 ⟨hS, hbS⟩
    rw [hTf.mem_iff] at hSm
    rcases hcase with ⟨h1, f1, f2, _, _⟩ | ⟨h1, f1, f2, _, _⟩
    · rw [f1, f2] at hSm
      simp at hSm
      subst h1
      rcases hSm with rfl | rfl
      · exact ⟨b, by simp, by show b ≠ a; omega, by show b ≠ d; omega⟩
      · exact ⟨e, by simp, by show e ≠ a; omega, by show e ≠ d; omega⟩
    · rw [f1, f2] at hSm
      simp at hSm
      subst h1
      rcases hSm with rfl | rfl
      · exact ⟨d, by simp, by show d ≠ b; omega, by show d ≠ e; omega⟩
      · exact ⟨a, by simp, by show a ≠ b; omega, by show a ≠ e; omega⟩
  · have hmap := hTf.map (crnR c)
    rcases hcase with ⟨h1, f1, f2, f3, f4⟩ | ⟨h1, f1, f2, f3, f4⟩
    · left
      refine ⟨h1, ?_⟩
      rw [f1, f2, List.map_cons, List.map_cons, List.map_nil, f3, f4] at hmap
      rcases perm_two hmap with h | h
      · exact ⟨b, e, h, .inl ⟨rfl, rfl⟩⟩
      · exact ⟨e, b, h, .inr ⟨rfl, rfl⟩⟩
    · right
      refine ⟨h1, ?_⟩
      rw [f1, f2, List.map_cons, List.map_cons, List.map_nil, f3, f4] at hmap
      rcases perm_two hmap with h | h
      · exact ⟨d, a, h, .inr ⟨rfl, rfl⟩⟩
      · exact ⟨a, d, h, .inl ⟨rfl, rfl⟩⟩

/-- All points, one behind the other. -/
theorem nb_whole (W : List Int) (n : Nat) (hm : ∀ x : Int, x ∈ W ↔ 0 ≤ x ∧ x < n) (hu : W.Pairwise (· < ·)) : Nb n [] W := by
  refine ⟨hu, fun a ha b hb hab hn => ?_, fun a ha b hb hab hn => ?_⟩
  · rw [hm] at ha hb
    by_cases h : b = a + 1
    · exact .inl h
    · exact absurd ⟨by omega, by omega⟩ (hn (a + 1) ((hm _).2 ⟨by omega, by omega⟩))
  · rw [hm] at ha hb
    have h0 := hn 0 ((hm _).2 ⟨by omega, by omega⟩)
    have h1 := hn ((n : Int) - 1) ((hm _).2 ⟨by omega, by omega⟩)
    exact .inl ⟨by omega, by omega⟩
end Go.Proofs.Ytnldnjgnpdicnaa
