/- Groups of what crosses: the mathematics. Nothing of the program. -/
import Derived.Test.YtinjldakmjganaaB4
namespace Go.Proofs.Ytinjldakmjganaa
open Go.RowKit

theorem nodup_few (n : Nat) : ∀ (l : List Nat), l.Nodup → (∀ x ∈ l, x < n) → l.length ≤ n := by
  induction n with
  | zero =>
    intro l _ h
    cases l with
    | nil => simp
    | cons a l => exact absurd (h a (by simp)) (by omega)
  | succ n ih =>
    intro l hl h
    have h1 := ih (l.erase n) (hl.erase n) (fun x hx => by
      have := (List.Nodup.mem_erase_iff hl).1 hx
      have := h x this.2
      omega)
    rw [List.length_erase] at h1
    split at h1 <;> omega

/-- What is known of each chord: the first one of its group, and how far it is from that one. -/
abbrev LabT := List (Option (Nat × Nat))

def labT (L : LabT) (i : Nat) : Option (Nat × Nat) := L.getD i none

theorem labT_set (L : LabT) (i j : Nat) (x : Option (Nat × Nat)) (h : i < L.length) : labT (L.set i x) j = if i = j then x else labT L j := by
  unfold labT
  by_cases e : i = j
  · subst e
    rw [if_pos rfl, List.getD, List.getElem?_set_self h]
    rfl
  · rw [if_neg e, List.getD, List.getElem?_set_ne e]
    rfl

def distT (L : LabT) (i : Nat) : Nat := match labT L i with | some (_, d) => d | none => 0

/-- Chord j is reached from another one, if it crosses it and is in no group yet. -/
def reachS (cr : Nat → Nat → Bool) (root d from' : Nat) (S : LabT × List Nat) (j : Nat) : LabT × List Nat :=
  if (labT S.1 j).isNone && cr from' j then (S.1.set j (some (root, d + 1)), S.2 ++ [j]) else S

def reachK (cr : Nat → Nat → Bool) (root d from' : Nat) (S : LabT × List Nat) (k : Nat) : LabT × List Nat := (List.range k).foldl (reachS cr root d from') S

theorem reachK_zero (cr : Nat → Nat → Bool) (root d from' : Nat) (S : LabT × List Nat) : reachK cr root d from' S 0 = S := rfl

theorem reachK_succ (cr : Nat → Nat → Bool) (root d from' : Nat) (S : LabT × List Nat) (k : Nat) : reachK cr root d from' S (k + 1) = reachS cr root d from' (reachK cr root d from' S k) k := by
  simp [reachK, List.range_succ, List.foldl_append]

/-- All that is reached from chord k of the queue on. -/
def runQ (cr : Nat → Nat → Bool) (n root : Nat) : Nat → Nat → LabT × List Nat → LabT × List Nat
  | 0, _, S => S
  | f + 1, k, S => if k < S.2.length then runQ cr n root f (k + 1) (reachK cr root (distT S.1 (S.2.getD k 0)) (S.2.getD k 0) S n) else S

/-- What stands while a group is gathered: L0 is what was known before it. -/
structure InvQ (n root : Nat) (L0 : LabT) (S : LabT × List Nat) : Prop where
  len : S.1.length = n
  old : ∀ i x, labT L0 i = some x → labT S.1 i = some x
  mem : ∀ q, q ∈ S.2 ↔ (q < n ∧ labT L0 q = none ∧ labT S.1 q ≠ none)
  lab : ∀ q x, labT L0 q = none → labT S.1 q = some x → x.1 = root
  nodup : S.2.Nodup
  top : labT S.1 root = some (root, 0)

theorem labT_none {L : LabT} {i : Nat} (h : L.length ≤ i) : labT L i = none := by
  unfold labT
  rw [List.getD, List.getElem?_eq_none h]
  rfl

theorem InvQ.step {n root : Nat} {L0 : LabT} {S : LabT × List Nat} (h : InvQ n root L0 S) (cr : Nat → Nat → Bool) (d from' j : Nat) (hj : j < n) : InvQ n root L0 (reachS cr root d from' S j) := by
  unfold reachS
  split
  · next hc =>
    rw [Bool.and_eq_true, Option.isNone_iff_eq_none] at hc
    have hL0 : labT L0 j = none := by
      cases e : labT L0 j with
      | none => rfl
      | some x => rw [h.old j x e] at hc; cases hc.1
    have hjl : j < S.1.length := by rw [h.len]; exact hj
    refine ⟨by simp [h.len], fun i x hx => ?_, fun q => ?_, fun q x h0 hx => ?_, ?_, by
      rw [labT_set _ _ _ _ hjl, if_neg (fun e => by rw [e, h.top] at hc; cases hc.1)]
      exact h.top⟩
    · rw [labT_set _ _ _ _ hjl]
      by_cases e : j = i
      · subst e; rw [hL0] at hx; cases hx
      · rw [if_neg e]; exact h.old i x hx
    · rw [List.mem_append, List.mem_singleton, h.mem q, labT_set _ _ _ _ hjl]
      by_cases e : j = q
      · subst e; simp [hj, hL0]
      · rw [if_neg e]
        constructor
        · rintro (g | g)
          · exact g
          · exact absurd g.symm e
        · exact fun g => .inl g
    · rw [labT_set _ _ _ _ hjl] at hx
      by_cases e : j = q
      · rw [if_pos e] at hx; cases hx; rfl
      · rw [if_neg e] at hx; exact h.lab q x h0 hx
    · rw [List.nodup_append]
      refine ⟨h.nodup, by simp, fun a ha b hb e => ?_⟩
      rw [List.mem_singleton] at hb
      subst hb
      subst e
      exact ((h.mem a).1 ha).2.2 hc.1
  · exact h

theorem InvQ.reach {n root : Nat} {L0 : LabT} {S : LabT × List Nat} (h : InvQ n root L0 S) (cr : Nat → Nat → Bool) (d from' k : Nat) (hk : k ≤ n) : InvQ n root L0 (reachK cr root d from' S k) := by
  induction k with
  | zero => exact h
  | succ k ih =>
    rw [reachK_succ]
    exact (ih (by omega)).step cr d from' k (by omega)

theorem InvQ.few {n root : Nat} {L0 : LabT} {S : LabT × List Nat} (h : InvQ n root L0 S) : S.2.length ≤ n := nodup_few n S.2 h.nodup fun x hx => ((h.mem x).1 hx).1

theorem InvQ.run {n root : Nat} {L0 : LabT} (cr : Nat → Nat → Bool) (f : Nat) : ∀ (k : Nat) (S : LabT × List Nat), InvQ n root L0 S → InvQ n root L0 (runQ cr n root f k S) := by
  induction f with
  | zero => intro k S h; exact h
  | succ f ih =>
    intro k S h
    unfold runQ
    split
    · exact ih _ _ (h.reach cr _ _ n (Nat.le_refl n))
    · exact h

theorem runQ_go (cr : Nat → Nat → Bool) (n root k : Nat) (S : LabT × List Nat) (hk : k < S.2.length) (hn : S.2.length ≤ n) :
    runQ cr n root (n + 1 - k) k S = runQ cr n root (n + 1 - (k + 1)) (k + 1) (reachK cr root (distT S.1 (S.2.getD k 0)) (S.2.getD k 0) S n) := by
  rw [show n + 1 - k = (n + 1 - (k + 1)) + 1 by omega, runQ, if_pos hk]

theorem runQ_end (cr : Nat → Nat → Bool) (n root k : Nat) (S : LabT × List Nat) (hk : S.2.length ≤ k) (f : Nat) : runQ cr n root f k S = S := by
  cases f with
  | zero => rfl
  | succ f => rw [runQ, if_neg (by omega)]

/-- The group that begins with a chord. -/
def gatherQ (cr : Nat → Nat → Bool) (n : Nat) (L : LabT) (first : Nat) : LabT × List Nat := runQ cr n first (n + 1) 0 (L.set first (some (first, 0)), [first])

/-- The groups of the chords up to one of them. -/
def outerS (cr : Nat → Nat → Bool) (n : Nat) (T : LabT × List (List Nat)) (first : Nat) : LabT × List (List Nat) :=
  if (labT T.1 first).isSome then T else ((gatherQ cr n T.1 first).1, T.2 ++ [(gatherQ cr n T.1 first).2])

def outerK (cr : Nat → Nat → Bool) (n k : Nat) : LabT × List (List Nat) := (List.range k).foldl (outerS cr n) (List.replicate n none, [])

theorem outerK_zero (cr : Nat → Nat → Bool) (n : Nat) : outerK cr n 0 = (List.replicate n none, []) := rfl

theorem outerK_succ (cr : Nat → Nat → Bool) (n k : Nat) : outerK cr n (k + 1) = outerS cr n (outerK cr n k) k := by
  simp [outerK, List.range_succ, List.foldl_append]

theorem InvQ.start {n : Nat} {L : LabT} (hl : L.length = n) (first : Nat) (hf : first < n) (h : labT L first = none) : InvQ n first L (L.set first (some (first, 0)), [first]) := by
  have hfl : first < L.length := by omega
  refine ⟨by simp [hl], fun i x hx => ?_, fun q => ?_, fun q x h0 hx => ?_, by simp, by rw [labT_set _ _ _ _ hfl, if_pos rfl]⟩
  · rw [labT_set _ _ _ _ hfl]
    by_cases e : first = i
    · subst e; rw [h] at hx; cases hx
    · rw [if_neg e]; exact hx
  · simp only [List.mem_singleton]
    rw [labT_set _ _ _ _ hfl]
    by_cases e : first = q
    · subst e; simp [hf, h]
    · rw [if_neg e]
      exact ⟨fun g => absurd g.symm e, fun g => absurd g.2.1 g.2.2⟩
  · rw [labT_set _ _ _ _ hfl] at hx
    by_cases e : first = q
    · rw [if_pos e] at hx; cases hx; rfl
    · rw [if_neg e, h0] at hx; cases hx

/-- The chords whose group has a chord for its first one. -/
def rowsT (n : Nat) (L : LabT) (r : Nat) : List Nat := (List.range n).filter fun i => (labT L i).map (·.1) == some r

/-- Is a chord the first one of its group? -/
def rootT (L : LabT) (r : Nat) : Bool := (labT L r).map (·.1) == some r

theorem strict_ext : ∀ {xs ys : List Nat}, xs.Pairwise (· < ·) → ys.Pairwise (· < ·) → (∀ x, x ∈ xs ↔ x ∈ ys) → xs = ys
  | [], [], _, _, _ => rfl
  | [], y :: ys, _, _, e => absurd ((e y).2 (by simp)) (by simp)
  | x :: xs, [], _, _, e => absurd ((e x).1 (by simp)) (by simp)
  | x :: xs, y :: ys, hx, hy, e => by
    rw [List.pairwise_cons] at hx hy
    have hxy : x = y := by
      have h1 := (e x).1 (by simp)
      have h2 := (e y).2 (by simp)
      rw [List.mem_cons] at h1 h2
      rcases h1 with h1 | h1
      · exact h1
      · rcases h2 with h2 | h2
        · exact h2.symm
        · have a := hy.1 x h1
          have b := hx.1 y h2
          omega
    subst hxy
    rw [strict_ext hx.2 hy.2 fun z => ?_]
    constructor
    · intro hz
      have := (e z).1 (by simp [hz])
      rw [List.mem_cons] at this
      rcases this with h | h
      · subst h; exact absurd (hx.1 z hz) (by omega)
      · exact h
    · intro hz
      have := (e z).2 (by simp [hz])
      rw [List.mem_cons] at this
      rcases this with h | h
      · subst h; exact absurd (hy.1 z hz) (by omega)
      · exact h

def sortN (l : List Nat) : List Nat := l.mergeSort fun x y => decide (x ≤ y)

theorem sortN_strict (l : List Nat) (h : l.Nodup) : (sortN l).Pairwise (· < ·) := by
  have h1 : (sortN l).Pairwise fun x y => decide (x ≤ y) = true := List.pairwise_mergeSort (by intro a b c; simp; omega) (by intro a b; simp; omega) l
  have h2 : (sortN l).Nodup := (List.mergeSort_perm l _).nodup_iff.2 h
  refine (List.Pairwise.and h1 h2).imp fun {x y} hxy => ?_
  have a := hxy.1
  have b := hxy.2
  rw [decide_eq_true_eq] at a
  omega

theorem mem_sortN (l : List Nat) (x : Nat) : x ∈ sortN l ↔ x ∈ l := (List.mergeSort_perm l _).mem_iff

theorem range_strict (n : Nat) (c : Nat → Bool) : ((List.range n).filter c).Pairwise (· < ·) := List.Pairwise.filter _ List.pairwise_lt_range

theorem sortN_eq (l : List Nat) (h : l.Nodup) (n : Nat) (c : Nat → Bool) (e : ∀ x, x ∈ l ↔ (x < n ∧ c x = true)) : sortN l = (List.range n).filter c :=
  strict_ext (sortN_strict l h) (range_strict n c) fun x => by rw [mem_sortN, e x, List.mem_filter, List.mem_range]

theorem sortN_ints (l : List Nat) : (l.map fun (x : Nat) => (x : Int)).mergeSort (fun x y => decide (x ≤ y)) = (sortN l).map fun (x : Nat) => (x : Int) := by
  unfold sortN
  rw [List.map_mergeSort]
  intro a _ b _
  rw [Bool.eq_iff_iff, decide_eq_true_eq, decide_eq_true_eq]
  omega

structure OutI (n k : Nat) (T : LabT × List (List Nat)) : Prop where
  len : T.1.length = n
  all : ∀ i, i < k → labT T.1 i ≠ none
  low : ∀ i x, labT T.1 i = some x → i < n ∧ x.1 < k ∧ labT T.1 x.1 = some (x.1, 0)
  grp : T.2.map sortN = ((List.range k).filter (rootT T.1)).map (rowsT n T.1)

theorem OutI.start (n : Nat) : OutI n 0 (List.replicate n none, []) := by
  refine ⟨by simp, fun i hi => by omega, fun i x hx => ?_, rfl⟩
  unfold labT at hx
  rw [List.getD] at hx
  by_cases h : i < n
  · simp [h] at hx
  · simp [h] at hx

theorem OutI.step {n k : Nat} {T : LabT × List (List Nat)} (h : OutI n k T) (cr : Nat → Nat → Bool) (hk : k < n) : OutI n (k + 1) (outerS cr n T k) := by
  unfold outerS
  split
  · next hs =>
    rw [Option.isSome_iff_exists] at hs
    obtain ⟨y, hy⟩ := hs
    refine ⟨h.len, fun i hi => ?_, fun i x hx => ?_, ?_⟩
    · rcases Nat.lt_or_ge i k with g | g
      · exact h.all i g
      · obtain rfl : i = k := by omega
        rw [hy]; simp
    · have := h.low i x hx
      exact ⟨this.1, by omega, this.2.2⟩
    · rw [h.grp, List.range_succ, List.filter_append]
      have hr : rootT T.1 k = false := by
        unfold rootT
        rw [hy]
        have := (h.low k y hy).2.1
        simp
        omega
      simp [hr]
  · next hs =>
    have hs : labT T.1 k = none := by
      cases e : labT T.1 k with
      | none => rfl
      | some x => rw [e] at hs; exact absurd rfl hs
    have hq := InvQ.run cr (n + 1) 0 _ (InvQ.start h.len k hk hs)
    rw [← gatherQ] at hq
    obtain ⟨E, hE⟩ : ∃ E, E = gatherQ cr n T.1 k := ⟨_, rfl⟩
    rw [← hE] at hq ⊢
    have hk0 : labT E.1 k = some (k, 0) := hq.top
    have hnew : ∀ i x, labT E.1 i = some x → labT T.1 i = some x ∨ (labT T.1 i = none ∧ x.1 = k) := fun i x hx => by
      cases e : labT T.1 i with
      | none => exact .inr ⟨rfl, hq.lab i x e hx⟩
      | some y => rw [hq.old i y e] at hx; cases hx; exact .inl rfl
    have hroot : ∀ r, r < k → rootT E.1 r = rootT T.1 r := fun r hr => by
      unfold rootT
      cases e : labT T.1 r with
      | none => exact absurd e (h.all r hr)
      | some y => rw [hq.old r y e]
    have hrows : ∀ r, r < k → rowsT n E.1 r = rowsT n T.1 r := fun r hr => by
      unfold rowsT
      refine List.filter_congr fun i _ => ?_
      cases e : labT T.1 i with
      | some y => rw [hq.old i y e]
      | none =>
        cases e2 : labT E.1 i with
        | none => rfl
        | some x =>
          have := hq.lab i x e e2
          simp
          omega
    refine ⟨hq.len, fun i hi => ?_, fun i x hx => ?_, ?_⟩
    · rcases Nat.lt_or_ge i k with g | g
      · cases e : labT T.1 i with
        | none => exact absurd e (h.all i g)
        | some y => rw [hq.old i y e]; simp
      · obtain rfl : i = k := by omega
        rw [hk0]; simp
    · have hin : i < n := by
        rcases Nat.lt_or_ge i n with g | g
        · exact g
        · rw [labT_none (by rw [hq.len]; exact g)] at hx; cases hx
      rcases hnew i x hx with g | ⟨_, g⟩
      · have := h.low i x g
        exact ⟨hin, by omega, hq.old _ _ this.2.2⟩
      · rw [g]
        exact ⟨hin, by omega, hk0⟩
    · rw [List.map_append, h.grp, List.range_succ, List.filter_append, List.map_append]
      have hr : rootT E.1 k = true := by unfold rootT; rw [hk0]; simp
      have e1 : ((List.range k).filter (rootT E.1)) = (List.range k).filter (rootT T.1) := List.filter_congr fun r hr => hroot r (List.mem_range.1 hr)
      rw [e1]
      congr 1
      · refine List.map_congr_left fun r hr => ?_
        exact (hrows r (List.mem_range.1 (List.mem_filter.1 hr).1)).symm
      · simp only [List.filter_cons, hr, if_true, List.filter_nil, List.map_cons, List.map_nil]
        congr 1
        refine sortN_eq E.2 hq.nodup n _ fun i => ?_
        rw [hq.mem i]
        constructor
        · rintro ⟨a, b, c⟩
          refine ⟨a, ?_⟩
          cases e : labT E.1 i with
          | none => exact absurd e c
          | some x => have := hq.lab i x b e; simp [this]
        · rintro ⟨a, b⟩
          cases e : labT E.1 i with
          | none => rw [e] at b; simp at b
          | some x =>
            rw [e] at b
            simp at b
            rcases hnew i x e with g | ⟨g, _⟩
            · have := (h.low i x g).2.1
              omega
            · exact ⟨a, g, by simp⟩

end Go.Proofs.Ytinjldakmjganaa
