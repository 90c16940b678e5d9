/- Closed words, counted: the mathematics. Nothing of the program. -/
import Derived.Test.YtbgcbokddldmkaaDoorBA
namespace Go.Proofs.YtbgcbokddldmkaaDoor

/-- What a step adds, by directions. -/
def dirsG (g : Int) : List (Int × Int) := if g = 4 then [(1, 0), (0, 1), (-1, 0), (0, -1)] else [(1, 0), (0, 1), (-1, 1), (-1, 0), (0, -1), (1, -1)]
def stepG' (g : Int) (d : Int) : Int × Int := (dirsG g).getD d.toNat (0, 0)

/-- The place behind a sign: F, L, R. -/
def nxtP (g : Int) (j : Nat) (p : Tri) : Tri :=
  match j with
  | 0 => (p.1 + (stepG' g p.2.2).1, p.2.1 + (stepG' g p.2.2).2, p.2.2)
  | 1 => (p.1, p.2.1, (p.2.2 + 1) % g)
  | _ => (p.1, p.2.1, (p.2.2 + g - 1) % g)

def homeP : Tri := (0, 0, 0)

/-- How many words of so many signs lead home from a place. -/
def cntP (g : Int) : Nat → Tri → Int
  | 0, p => if p = homeP then 1 else 0
  | n + 1, p => cntP g n (nxtP g 0 p) + cntP g n (nxtP g 1 p) + cntP g n (nxtP g 2 p)

def isG (g : Int) : Prop := g = 4 ∨ g = 6

/-- A place that so many signs lead to. -/
def okP (g : Int) (n : Nat) (p : Tri) : Prop := (-(n : Int) ≤ p.1 ∧ p.1 ≤ n) ∧ (-(n : Int) ≤ p.2.1 ∧ p.2.1 ≤ n) ∧ 0 ≤ p.2.2 ∧ p.2.2 < g

theorem steps4 : ∀ d : Fin 4, (-1 ≤ (stepG' 4 d.1).1 ∧ (stepG' 4 d.1).1 ≤ 1) ∧ -1 ≤ (stepG' 4 d.1).2 ∧ (stepG' 4 d.1).2 ≤ 1 := by decide
theorem steps6 : ∀ d : Fin 6, (-1 ≤ (stepG' 6 d.1).1 ∧ (stepG' 6 d.1).1 ≤ 1) ∧ -1 ≤ (stepG' 6 d.1).2 ∧ (stepG' 6 d.1).2 ≤ 1 := by decide

theorem step_small {g d : Int} (hg : isG g) (h0 : 0 ≤ d) (h1 : d < g) : (-1 ≤ (stepG' g d).1 ∧ (stepG' g d).1 ≤ 1) ∧ -1 ≤ (stepG' g d).2 ∧ (stepG' g d).2 ≤ 1 := by
  obtain ⟨n, rfl⟩ := Int.eq_ofNat_of_zero_le h0
  rcases hg with rfl | rfl
  · exact steps4 ⟨n, by omega⟩
  · exact steps6 ⟨n, by omega⟩

theorem okP_next {g : Int} {n : Nat} {p : Tri} (hg : isG g) (h : okP g n p) (j : Nat) : okP g (n + 1) (nxtP g j p) := by
  obtain ⟨⟨h1, h2⟩, ⟨h3, h4⟩, h5, h6⟩ := h
  have hs := step_small hg h5 h6
  have g0 : 0 < g := by rcases hg with rfl | rfl <;> omega
  have m1 := Int.emod_nonneg (p.2.2 + 1) (show g ≠ 0 by omega)
  have m2 := Int.emod_lt_of_pos (p.2.2 + 1) g0
  have m3 := Int.emod_nonneg (p.2.2 + g - 1) (show g ≠ 0 by omega)
  have m4 := Int.emod_lt_of_pos (p.2.2 + g - 1) g0
  match j with
  | 0 => exact ⟨⟨by simp only [nxtP]; omega, by simp only [nxtP]; omega⟩, ⟨by simp only [nxtP]; omega, by simp only [nxtP]; omega⟩, h5, h6⟩
  | 1 => exact ⟨⟨by simp only [nxtP]; omega, by simp only [nxtP]; omega⟩, ⟨by simp only [nxtP]; omega, by simp only [nxtP]; omega⟩, m1, m2⟩
  | j + 2 => exact ⟨⟨by simp only [nxtP]; omega, by simp only [nxtP]; omega⟩, ⟨by simp only [nxtP]; omega, by simp only [nxtP]; omega⟩, m3, m4⟩

theorem okP_home {g : Int} (hg : isG g) : okP g 0 homeP := ⟨⟨by simp [homeP], by simp [homeP]⟩, ⟨by simp [homeP], by simp [homeP]⟩, by simp [homeP], by rcases hg with rfl | rfl <;> simp [homeP]⟩

theorem cntP_bounds (g : Int) : ∀ (n : Nat) (p : Tri), 0 ≤ cntP g n p ∧ cntP g n p ≤ (3 ^ n : Nat)
  | 0, p => by unfold cntP; split <;> simp
  | n + 1, p => by
    have h0 := cntP_bounds g n (nxtP g 0 p)
    have h1 := cntP_bounds g n (nxtP g 1 p)
    have h2 := cntP_bounds g n (nxtP g 2 p)
    unfold cntP
    rw [Nat.pow_succ]
    omega

theorem pow3_le {n : Nat} (h : n ≤ 10) : 3 ^ n ≤ 59049 := by
  have := Nat.pow_le_pow_right (show 0 < 3 by omega) h
  simpa using this

/-! weighted sums over counted places -/
abbrev Cnts := List (Tri × Int)
def wt (xs : Cnts) (T : Tri → Int) : Int := (xs.map fun q => q.2 * T q.1).sum
def look (xs : Cnts) (p : Tri) : Int := ((xs.find? fun q => decide (q.1 = p)).map (·.2)).getD 0
def without' (xs : Cnts) (p : Tri) : Cnts := xs.filter fun q => decide (q.1 ≠ p)
def bump (xs : Cnts) (p : Tri) (x : Int) : Cnts := without' xs p ++ [(p, look xs p + x)]
def Once (xs : Cnts) : Prop := (xs.map (·.1)).Nodup

theorem wt_nil (T : Tri → Int) : wt [] T = 0 := rfl
theorem wt_cons (q : Tri × Int) (xs : Cnts) (T : Tri → Int) : wt (q :: xs) T = q.2 * T q.1 + wt xs T := rfl
theorem wt_append (xs ys : Cnts) (T : Tri → Int) : wt (xs ++ ys) T = wt xs T + wt ys T := by
  induction xs with
  | nil => simp [wt_nil]
  | cons q r ih => rw [List.cons_append, wt_cons, wt_cons, ih]; omega

theorem look_cons (q : Tri × Int) (xs : Cnts) (p : Tri) : look (q :: xs) p = if q.1 = p then q.2 else look xs p := by
  unfold look
  rw [List.find?_cons]
  by_cases h : q.1 = p <;> simp [h]

theorem look_none {xs : Cnts} {p : Tri} (h : ∀ q ∈ xs, q.1 ≠ p) : look xs p = 0 := by
  induction xs with
  | nil => rfl
  | cons q r ih => rw [look_cons, if_neg (h q (by simp)), ih fun x hx => h x (by simp [hx])]

theorem look_mem {xs : Cnts} (h : Once xs) {q : Tri × Int} (hq : q ∈ xs) : look xs q.1 = q.2 := by
  induction xs with
  | nil => simp at hq
  | cons x r ih =>
    unfold Once at h
    rw [List.map_cons, List.nodup_cons] at h
    rw [look_cons]
    rcases List.mem_cons.1 hq with rfl | hq
    · rw [if_pos rfl]
    · rw [if_neg fun e => h.1 (List.mem_map.2 ⟨q, hq, e.symm⟩)]
      exact ih h.2 hq

theorem without_self {xs : Cnts} {p : Tri} (h : ∀ q ∈ xs, q.1 ≠ p) : without' xs p = xs := List.filter_eq_self.2 fun q hq => by simpa using h q hq

theorem wt_without {xs : Cnts} (h : Once xs) (p : Tri) (T : Tri → Int) : wt xs T = look xs p * T p + wt (without' xs p) T := by
  induction xs with
  | nil => simp [wt, look, without']
  | cons x r ih =>
    unfold Once at h
    rw [List.map_cons, List.nodup_cons] at h
    rw [look_cons, wt_cons]
    by_cases e : x.1 = p
    · rw [if_pos e]
      have hn : ∀ q ∈ r, q.1 ≠ p := fun q hq e2 => h.1 (List.mem_map.2 ⟨q, hq, by rw [e2, e]⟩)
      have : without' (x :: r) p = r := by
        have := without_self hn
        unfold without' at this ⊢
        rw [List.filter_cons, if_neg (by simp [e])]
        exact this
      rw [this, e]
    · rw [if_neg e]
      have : without' (x :: r) p = x :: without' r p := by
        unfold without'
        rw [List.filter_cons, if_pos (by simpa using e)]
      rw [this, wt_cons, ih h.2]
      omega

theorem once_without {xs : Cnts} (h : Once xs) (p : Tri) : Once (without' xs p) := (List.filter_sublist.map _).nodup h

theorem not_without (xs : Cnts) (p : Tri) : ∀ q ∈ without' xs p, q.1 ≠ p := fun q hq => by
  have := (List.mem_filter.1 hq).2
  simpa using this

theorem once_bump {xs : Cnts} (h : Once xs) (p : Tri) (x : Int) : Once (bump xs p x) := by
  unfold bump Once
  rw [List.map_append, List.nodup_append]
  refine ⟨once_without h p, by simp, ?_⟩
  intro a ha b hb e
  simp at hb
  subst hb
  subst e
  obtain ⟨q, hq, rfl⟩ := List.mem_map.1 ha
  exact not_without xs _ q hq rfl

theorem wt_bump {xs : Cnts} (h : Once xs) (p : Tri) (x : Int) (T : Tri → Int) : wt (bump xs p x) T = wt xs T + x * T p := by
  unfold bump
  rw [wt_append, wt_without h p T, wt_cons, wt_nil]
  simp only [Int.add_mul]
  omega

theorem mem_bump {xs : Cnts} {p : Tri} {x : Int} {q : Tri × Int} (h : q ∈ bump xs p x) : q ∈ xs ∨ q = (p, look xs p + x) := by
  unfold bump at h
  rcases List.mem_append.1 h with h | h
  · exact .inl (List.mem_filter.1 h).1
  · exact .inr (by simpa using h)

/-- All counts are at least 1. -/
def AllPos (g : Int) (n : Nat) (xs : Cnts) : Prop := Once xs ∧ ∀ q ∈ xs, okP g n q.1 ∧ 1 ≤ q.2

theorem wt_one_nonneg {g : Int} {n : Nat} {xs : Cnts} (h : ∀ q ∈ xs, okP g n q.1 ∧ 1 ≤ q.2) : (xs.length : Int) ≤ wt xs (fun _ => 1) := by
  induction xs with
  | nil => simp [wt]
  | cons x r ih =>
    have h1 := (h x (by simp)).2
    have h2 := ih fun q hq => h q (by simp [hq])
    rw [wt_cons, List.length_cons]
    omega

theorem look_le {g : Int} {n : Nat} {xs : Cnts} (h : AllPos g n xs) (p : Tri) : 0 ≤ look xs p ∧ look xs p ≤ wt xs (fun _ => 1) := by
  by_cases hp : ∃ q ∈ xs, q.1 = p
  · obtain ⟨q, hq, rfl⟩ := hp
    have h1 := look_mem h.1 hq
    have h2 := wt_without h.1 q.1 (fun _ => 1)
    have h3 := wt_one_nonneg (g := g) (n := n) (xs := without' xs q.1) fun x hx => h.2 x (List.mem_filter.1 hx).1
    have h4 := (h.2 q hq).2
    omega
  · have h1 := look_none (xs := xs) (p := p) fun q hq e => hp ⟨q, hq, e⟩
    have := wt_one_nonneg h.2
    omega

theorem allPos_bump {g : Int} {n : Nat} {xs : Cnts} (h : AllPos g n xs) {p : Tri} (hp : okP g n p) {x : Int} (hx : 1 ≤ x) : AllPos g n (bump xs p x) := by
  refine ⟨once_bump h.1 p x, fun q hq => ?_⟩
  rcases mem_bump hq with hq | rfl
  · exact h.2 q hq
  · have := (look_le h p).1
    exact ⟨hp, by simp only; omega⟩

/-- The weight of the places behind one sign more. -/
def moreT (g : Int) (T : Tri → Int) (p : Tri) : Int := T (nxtP g 0 p) + T (nxtP g 1 p) + T (nxtP g 2 p)

/-- The weight of those signs that come from the j-th one on. -/
def fromT (g : Int) (T : Tri → Int) (p : Tri) : Nat → Int
  | 0 => moreT g T p
  | 1 => T (nxtP g 1 p) + T (nxtP g 2 p)
  | 2 => T (nxtP g 2 p)
  | _ => 0

theorem fromT_step (g : Int) (T : Tri → Int) (p : Tri) (j : Nat) (h : j < 3) : fromT g T p j = T (nxtP g j p) + fromT g T p (j + 1) := by
  match j, h with
  | 0, _ => show moreT g T p = T (nxtP g 0 p) + (T (nxtP g 1 p) + T (nxtP g 2 p)); unfold moreT; omega
  | 1, _ => rfl
  | 2, _ => simp [fromT]

/-- So many signs more. -/
def moreN (g : Int) (T : Tri → Int) : Nat → Tri → Int
  | 0, p => T p
  | n + 1, p => moreT g (moreN g T n) p

theorem moreN_out (g : Int) (T : Tri → Int) : ∀ (n : Nat) (p : Tri), moreN g (moreT g T) n p = moreN g T (n + 1) p
  | 0, p => rfl
  | n + 1, p => by
    show moreN g (moreT g T) n (nxtP g 0 p) + moreN g (moreT g T) n (nxtP g 1 p) + moreN g (moreT g T) n (nxtP g 2 p) = moreN g T (n + 1) (nxtP g 0 p) + moreN g T (n + 1) (nxtP g 1 p) + moreN g T (n + 1) (nxtP g 2 p)
    rw [moreN_out g T n, moreN_out g T n, moreN_out g T n]

theorem moreN_home (g : Int) : ∀ (n : Nat) (p : Tri), moreN g (fun q => if q = homeP then 1 else 0) n p = cntP g n p
  | 0, p => rfl
  | n + 1, p => by
    show moreT g _ p = _
    unfold moreT cntP
    rw [moreN_home g n, moreN_home g n, moreN_home g n]

theorem moreN_one (g : Int) : ∀ (n : Nat) (p : Tri), moreN g (fun _ => 1) n p = (3 ^ n : Nat)
  | 0, p => rfl
  | n + 1, p => by
    show moreT g _ p = _
    unfold moreT
    rw [moreN_one g n, moreN_one g n, moreN_one g n, Nat.pow_succ]
    omega

theorem wt_home {xs : Cnts} (h : Once xs) : wt xs (fun q => if q = homeP then 1 else 0) = look xs homeP := by
  rw [wt_without h homeP]
  have : wt (without' xs homeP) (fun q => if q = homeP then 1 else 0) = 0 := by
    have hn := not_without xs homeP
    generalize without' xs homeP = r at hn
    induction r with
    | nil => rfl
    | cons x r ih =>
      rw [wt_cons, ih fun q hq => hn q (by simp [hq]), if_neg (hn x (by simp))]
      omega
  rw [this, if_pos rfl]
  omega

end Go.Proofs.YtbgcbokddldmkaaDoor
