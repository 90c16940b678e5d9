/- Plane pairings: a set in which each point is just once and no two chords cross comes apart at its first chord. The mathematics; nothing of the program. -/
import Derived.Test.YtenkokkhdcjcaabR1
import Derived.Test.YtenkokkhdcjcaabN2
namespace Go.Proofs.Ytenkokkhdcjcaab
set_option linter.unusedVariables false

/-- A plane pairing of 2 n points, from a on. -/
inductive Plan : Nat → Nat → List (Int × Int) → Prop
  | nil (a : Nat) : Plan a 0 []
  | cons (a u v : Nat) (ys zs : List (Int × Int)) (hy : Plan (a + 1) u ys) (hz : Plan (a + 2 * u + 2) v zs) : Plan a (u + 1 + v) (((a : Int), ((a + 2 * u + 1 : Nat) : Int)) :: (ys ++ zs))

theorem Plan.len {a n : Nat} {xs : List (Int × Int)} (h : Plan a n xs) : xs.length = n := by
  induction h with
  | nil a => rfl
  | cons a u v ys zs hy hz ihy ihz => rw [List.length_cons, List.length_append, ihy, ihz]; omega

theorem good_ord2 {p : Int} {xs : List (Int × Int)} (hg : goodC p xs) (i j : Nat) (hij : i < j) (hj : j < xs.length) : lessC (xs.getD i (0, 0)) (xs.getD j (0, 0)) = true := by
  induction j with
  | zero => omega
  | succ j ih =>
    have h1 := (hg.2.2 (j + 1) hj).2 (by omega)
    rw [show j + 1 - 1 = j by omega] at h1
    by_cases e : i = j
    · rw [e]; exact h1
    · exact lessC_trans (ih (by omega) (by omega)) h1

theorem good_sorted2 {p : Int} {xs : List (Int × Int)} (hg : goodC p xs) : SortedC xs := by
  unfold SortedC
  rw [List.pairwise_iff_getElem]
  intro i j hi hj hij
  have := good_ord2 hg i j hij hj
  rw [List.getD_eq_getElem?_getD, List.getD_eq_getElem?_getD, List.getElem?_eq_getElem hi, List.getElem?_eq_getElem hj] at this
  exact this

theorem good_mem2 {p : Int} {xs : List (Int × Int)} (hg : goodC p xs) (c : Int × Int) (hc : c ∈ xs) : 0 ≤ c.1 ∧ c.1 < c.2 ∧ c.2 < p := by
  obtain ⟨k, hk, rfl⟩ := List.getElem_of_mem hc
  have := (hg.2.2 k hk).1
  rw [List.getD_eq_getElem?_getD, List.getElem?_eq_getElem hk] at this
  exact this

theorem rowP_nil (xs : List (Int × Int)) (i j : Nat) (h : rowP xs i j = []) : ∀ k, i < k → k < j → crossP (xs.getD i (0, 0)) (xs.getD k (0, 0)) = false := by
  induction j with
  | zero => intro k _ hk; omega
  | succ j ih =>
    rw [rowP] at h
    obtain ⟨h1, h2⟩ := List.append_eq_nil_iff.1 h
    intro k hik hk
    by_cases e : k = j
    · subst e
      cases e2 : crossP (xs.getD i (0, 0)) (xs.getD k (0, 0)) with
      | false => rfl
      | true => rw [if_pos ⟨hik, e2⟩] at h2; simp at h2
    · exact ih h1 k hik (by omega)

theorem allP_nil (xs : List (Int × Int)) (n : Nat) (h : allP xs n = []) : ∀ i, i < n → rowP xs i xs.length = [] := by
  induction n with
  | zero => intro i hi; omega
  | succ n ih =>
    rw [allP] at h
    obtain ⟨h1, h2⟩ := List.append_eq_nil_iff.1 h
    intro i hi
    by_cases e : i = n
    · rw [e]; exact h2
    · exact ih h1 i (by omega)

/-- No two cross. -/
def PlaneL (xs : List (Int × Int)) : Prop := xs.Pairwise fun x y => crossP x y = false

theorem plane_of (xs : List (Int × Int)) (h : allP xs xs.length = []) : PlaneL xs := by
  unfold PlaneL
  rw [List.pairwise_iff_getElem]
  intro i j hi hj hij
  have := rowP_nil xs i xs.length (allP_nil xs _ h i hi) j hij hj
  rw [List.getD_eq_getElem?_getD, List.getD_eq_getElem?_getD, List.getElem?_eq_getElem hi, List.getElem?_eq_getElem hj] at this
  exact this

theorem mem_flatP (xs : List (Int × Int)) (q : Int) : q ∈ flatP xs ↔ ∃ c ∈ xs, q = c.1 ∨ q = c.2 := by
  induction xs with
  | nil => simp [flatP]
  | cons c r ih =>
    simp only [flatP, List.mem_cons, ih]
    constructor
    · rintro (h | h | ⟨d, hd, h⟩)
      · exact ⟨c, .inl rfl, .inl h⟩
      · exact ⟨c, .inl rfl, .inr h⟩
      · exact ⟨d, .inr hd, h⟩
    · rintro ⟨d, rfl | hd, h⟩
      · rcases h with h | h
        · exact .inl h
        · exact .inr (.inl h)
      · exact .inr (.inr ⟨d, hd, h⟩)

theorem split_at (b : Int) (r : List (Int × Int)) (h : SortedC r) : r = r.filter (fun d => decide (d.1 < b)) ++ r.filter (fun d => !decide (d.1 < b)) := by
  induction r with
  | nil => rfl
  | cons c r ih =>
    have h1 := List.pairwise_cons.1 h
    by_cases e : c.1 < b
    · rw [List.filter_cons_of_pos (by simp [e]), List.filter_cons_of_neg (by simp [e]), List.cons_append, ← ih h1.2]
    · have hall : ∀ d ∈ r, ¬ d.1 < b := fun d hd => by
        have := (lessC_iff c d).1 (h1.1 d hd)
        omega
      rw [List.filter_cons_of_neg (by simp [e]), List.filter_cons_of_pos (by simp [e]), List.filter_eq_nil_iff.2 (fun d hd => by simp [hall d hd]), List.nil_append, List.filter_eq_self.2 (fun d hd => by simp [hall d hd])]

theorem count_none {xs : List (Int × Int)} {q : Int} (h : ∀ c ∈ xs, q ≠ c.1 ∧ q ≠ c.2) : (flatP xs).count q = 0 := by
  rw [List.count_eq_zero, mem_flatP]
  rintro ⟨c, hc, h1 | h1⟩
  · exact (h c hc).1 h1
  · exact (h c hc).2 h1

theorem plan_of (N : Nat) : ∀ (xs : List (Int × Int)) (a m : Nat), xs.length ≤ N → SortedC xs → (∀ c ∈ xs, (a : Int) ≤ c.1 ∧ c.1 < c.2 ∧ c.2 < (a + m : Nat)) →
    (∀ q : Nat, a ≤ q → q < a + m → (flatP xs).count (q : Int) = 1) → PlaneL xs → m = 2 * xs.length ∧ Plan a xs.length xs := by
  induction N with
  | zero =>
    intro xs a m hN _ _ hc _
    obtain rfl := List.length_eq_zero_iff.1 (Nat.le_zero.1 hN)
    have : m = 0 := by
      rcases Nat.eq_zero_or_pos m with h | h
      · exact h
      · have := hc a (Nat.le_refl _) (by omega); simp [flatP] at this
    exact ⟨by simpa using this, Plan.nil a⟩
  | succ N ih =>
    intro xs a m hN hs hin hc hp
    cases xs with
    | nil =>
      have : m = 0 := by
        rcases Nat.eq_zero_or_pos m with h | h
        · exact h
        · have := hc a (Nat.le_refl _) (by omega); simp [flatP] at this
      exact ⟨by simpa using this, Plan.nil a⟩
    | cons c r =>
      have hs1 := List.pairwise_cons.1 hs
      have hp1 := List.pairwise_cons.1 hp
      have hc0 := hin c List.mem_cons_self
      have hca : c.1 = a := by
        have h1 := hc a (Nat.le_refl _) (by omega)
        have h2 : (a : Int) ∈ flatP (c :: r) := List.count_pos_iff.1 (by omega)
        obtain ⟨d, hd, hq⟩ := (mem_flatP _ _).1 h2
        have h3 := hin d hd
        have h4 : d.1 = a := by omega
        rcases List.mem_cons.1 hd with rfl | hd
        · exact h4
        · have := (lessC_iff c d).1 (hs1.1 d hd)
          omega
      obtain ⟨b, hb⟩ := Int.eq_ofNat_of_zero_le (show 0 ≤ c.2 by omega)
      have hcc : ∀ q : Nat, a ≤ q → q < a + m → (flatP r).count (q : Int) = if q = a ∨ q = b then 0 else 1 := by
        intro q h1 h2
        have h3 := hc q h1 h2
        simp only [flatP, List.count_cons, hca, hb] at h3
        by_cases e1 : q = a
        · subst e1
          have : ¬ ((b : Int) = (q : Int)) := by omega
          simp only [beq_self_eq_true, if_true, beq_iff_eq, this, if_false] at h3
          rw [if_pos (.inl rfl)]; omega
        · by_cases e2 : q = b
          · subst e2
            have : ¬ ((a : Int) = (q : Int)) := by omega
            simp only [beq_self_eq_true, if_true, beq_iff_eq, this, if_false] at h3
            rw [if_pos (.inr rfl)]; omega
          · have g1 : ¬ ((a : Int) = (q : Int)) := by omega
            have g2 : ¬ ((b : Int) = (q : Int)) := by omega
            simp only [beq_iff_eq, g1, g2, if_false] at h3
            rw [if_neg (by omega)]; omega
      have hne : ∀ q : Nat, (q = a ∨ q = b) → ∀ d ∈ r, (q : Int) ≠ d.1 ∧ (q : Int) ≠ d.2 := by
        intro q hq d hd
        have h1 := hcc q (by omega) (by omega)
        rw [if_pos hq, List.count_eq_zero, mem_flatP] at h1
        exact ⟨fun e => h1 ⟨d, hd, .inl e⟩, fun e => h1 ⟨d, hd, .inr e⟩⟩
      obtain ⟨ys, hys⟩ : ∃ l, l = r.filter (fun d => decide (d.1 < (b : Int))) := ⟨_, rfl⟩
      obtain ⟨zs, hzs⟩ : ∃ l, l = r.filter (fun d => !decide (d.1 < (b : Int))) := ⟨_, rfl⟩
      have hr : r = ys ++ zs := by rw [hys, hzs]; exact split_at b r hs1.2
      have hlen : r.length = ys.length + zs.length := by rw [hr, List.length_append]
      have hy : ∀ d ∈ ys, ((a + 1 : Nat) : Int) ≤ d.1 ∧ d.1 < d.2 ∧ d.2 < ((a + 1 + (b - a - 1) : Nat) : Int) := by
        intro d hd
        rw [hys, List.mem_filter] at hd
        obtain ⟨hd, hlt⟩ := hd
        have h1 := hin d (List.mem_cons_of_mem _ hd)
        have h2 := hne a (.inl rfl) d hd
        have h3 := hne b (.inr rfl) d hd
        have h4 := hp1.1 d hd
        simp only [decide_eq_true_eq] at hlt
        unfold crossP crossB at h4
        rw [decide_eq_false_iff_not, hca, hb] at h4
        omega
      have hz : ∀ d ∈ zs, ((b + 1 : Nat) : Int) ≤ d.1 ∧ d.1 < d.2 ∧ d.2 < ((b + 1 + (a + m - b - 1) : Nat) : Int) := by
        intro d hd
        rw [hzs, List.mem_filter] at hd
        obtain ⟨hd, hlt⟩ := hd
        have h1 := hin d (List.mem_cons_of_mem _ hd)
        have h3 := hne b (.inr rfl) d hd
        simp only [Bool.not_eq_eq_eq_not, Bool.not_true, decide_eq_false_iff_not] at hlt
        omega
      have hcy : ∀ q : Nat, a + 1 ≤ q → q < a + 1 + (b - a - 1) → (flatP ys).count (q : Int) = 1 := by
        intro q h1 h2
        have h3 := hcc q (by omega) (by omega)
        rw [if_neg (by omega), hr, flatP_append, List.count_append, count_none (xs := zs) (fun d hd => by have := hz d hd; omega)] at h3
        omega
      have hcz : ∀ q : Nat, b + 1 ≤ q → q < b + 1 + (a + m - b - 1) → (flatP zs).count (q : Int) = 1 := by
        intro q h1 h2
        have h3 := hcc q (by omega) (by omega)
        rw [if_neg (by omega), hr, flatP_append, List.count_append, count_none (xs := ys) (fun d hd => by have := hy d hd; omega)] at h3
        omega
      have hs2 : SortedC ys := by rw [hys]; exact hs1.2.filter _
      have hs3 : SortedC zs := by rw [hzs]; exact hs1.2.filter _
      have hp2 : PlaneL ys := by rw [hys]; exact hp1.2.filter _
      have hp3 : PlaneL zs := by rw [hzs]; exact hp1.2.filter _
      rw [List.length_cons] at hN
      obtain ⟨e1, P1⟩ := ih ys (a + 1) (b - a - 1) (by omega) hs2 hy hcy hp2
      obtain ⟨e2, P2⟩ := ih zs (b + 1) (a + m - b - 1) (by omega) hs3 hz hcz hp3
      have hb2 : b = a + 2 * ys.length + 1 := by omega
      refine ⟨by rw [List.length_cons]; omega, ?_⟩
      have hcx : c = ((a : Int), ((a + 2 * ys.length + 1 : Nat) : Int)) := Prod.ext hca (by rw [hb, hb2])
      have := Plan.cons a ys.length zs.length ys zs P1 (by rw [show a + 2 * ys.length + 2 = b + 1 by omega]; exact P2)
      rw [List.length_cons, hlen, show ys.length + zs.length + 1 = ys.length + 1 + zs.length by omega, hcx, hr]
      exact this

/-- Of a plane pairing of p points. -/
theorem plan_all {p : Nat} {xs : List (Int × Int)} (hg : goodC p xs) (h1 : onceAll p (flatP xs) = true) (h2 : allP xs xs.length = []) : p = 2 * xs.length ∧ Plan 0 xs.length xs := by
  refine plan_of xs.length xs 0 p (Nat.le_refl _) (good_sorted2 hg) (fun c hc => ?_) (fun q _ hq => ?_) (plane_of xs h2)
  · have := good_mem2 hg c hc
    omega
  · exact of_decide_eq_true h1 q (by omega)

/-- The rank of a plane pairing. -/
def rankP : Nat → List (Int × Int) → Nat
  | 0, _ => 0
  | _ + 1, [] => 0
  | f + 1, c :: r => catSum (r.length + 1) ((c.2 - c.1) / 2).toNat + rankP f (r.take ((c.2 - c.1) / 2).toNat) * cat (r.length - ((c.2 - c.1) / 2).toNat) + rankP f (r.drop ((c.2 - c.1) / 2).toNat)

theorem rankP_nil (f : Nat) : rankP f [] = 0 := by cases f <;> rfl

theorem rankP_cons (f a u v : Nat) (ys zs : List (Int × Int)) (hy : ys.length = u) (hz : zs.length = v) :
    rankP (f + 1) (((a : Int), ((a + 2 * u + 1 : Nat) : Int)) :: (ys ++ zs)) = catSum (u + 1 + v) u + rankP f ys * cat v + rankP f zs := by
  have e : ((((a + 2 * u + 1 : Nat) : Int) - (a : Int)) / 2).toNat = u := by omega
  rw [rankP]
  simp only [e]
  rw [List.take_append_of_le_length (by omega), List.take_of_length_le (by omega), List.drop_append_of_le_length (by omega), List.drop_eq_nil_of_le (by omega), List.nil_append, List.length_append, hy, hz, show u + v + 1 = u + 1 + v by omega, show u + v - u = v by omega]

theorem rankP_lt {a n : Nat} {xs : List (Int × Int)} (h : Plan a n xs) : ∀ f, n ≤ f → n < 16 → rankP f xs < cat n := by
  induction h with
  | nil a => intro f _ _; rw [rankP_nil]; decide
  | cons a u v ys zs hy hz ihy ihz =>
    intro f hf h16
    obtain ⟨f, rfl⟩ : ∃ g, f = g + 1 := ⟨f - 1, by omega⟩
    have h1 := ihy f (by omega) (by omega)
    have h2 := ihz f (by omega) (by omega)
    rw [rankP_cons f a u v ys zs hy.len hz.len]
    have h3 := catSum_mono (u + 1 + v) (u + 1) (u + 1 + v) (by omega)
    rw [catSum_all (u + 1 + v) h16 (by omega)] at h3
    have h4 : catSum (u + 1 + v) (u + 1) = catSum (u + 1 + v) u + cat u * cat v := by
      show _ + cat u * cat (u + 1 + v - 1 - u) = _
      rw [show u + 1 + v - 1 - u = v by omega]
    have h5 : (rankP f ys + 1) * cat v ≤ cat u * cat v := Nat.mul_le_mul (by omega) (Nat.le_refl _)
    rw [Nat.add_mul, Nat.one_mul] at h5
    omega

end Go.Proofs.Ytenkokkhdcjcaab
