/- Puzzles: which stars fit which clues, and all that fit (pure). -/
import Derived.Test.YtbgcbokddldmkaaDoorBA
import Derived.Test.YtbgcbokddldmkaaDoorP4
namespace Go.Proofs.YtbgcbokddldmkaaDoor
set_option linter.unusedVariables false

/-- Is there such a clue? -/
def clueP (c : Tri) : Prop :=
  (0 ≤ c.1 ∧ c.1 ≤ 5) ∧ ((c.1 = 0 → 3 ≤ c.2.1 ∧ c.2.1 ≤ 14) ∧ (c.1 = 1 → 1 ≤ c.2.1 ∧ c.2.1 ≤ 7) ∧ (c.1 = 2 → 1 ≤ c.2.1 ∧ c.2.1 ≤ 14) ∧ (c.1 = 3 → 0 ≤ c.2.1 ∧ c.2.1 ≤ 100) ∧ (c.1 = 4 → (0 ≤ c.2.1 ∧ c.2.1 ≤ 14) ∧ 0 ≤ c.2.2 ∧ c.2.2 ≤ 14) ∧ (c.1 = 5 → 1 ≤ c.2.1 ∧ c.2.1 ≤ 14)) ∧ (c.1 ≠ 4 → c.2.2 = 0)

instance (c : Tri) : Decidable (clueP c) := by unfold clueP; infer_instance

def puzzleP (xs : List Tri) : Prop := xs.length ≤ 6 ∧ ∀ k, k < xs.length → clueP (xs.getD k noT)

/-- What a star tells, by the kind. -/
def valZ (k : Int) (p s : Nat) : Int :=
  if k = 0 then (p : Int) else if k = 1 then ((Nat.gcd p s : Nat) : Int) else if k = 2 then (s : Int) / ((Nat.gcd p s : Nat) : Int) else if k = 3 then ((pairsC (starC p s) : Nat) : Int) else (((starC p s).length : Nat) : Int)

/-- Does a star fit a clue? -/
def fitZ (c : Tri) (p s : Nat) : Bool :=
  if c.1 = 4 then decide (c.2.1 < (p : Int) ∧ (c.2.1 + s) % (p : Int) = c.2.2) else decide (valZ c.1 p s = c.2.1)

def fitsZ (cs : List Tri) (p s : Nat) : Bool := cs.all fun c => fitZ c p s

/-- The stars of p points and of the steps up to j that fit, and all with fewer than k + 3 points. -/
def rowZ (cs : List Tri) (p j : Nat) : List (Int × Int) := ((List.range j).filter fun e => fitsZ cs p (e + 1)).map fun (e : Nat) => ((p : Int), (e : Int) + 1)
def allZ (cs : List Tri) (k : Nat) : List (Int × Int) := (List.range k).flatMap fun d => rowZ cs (d + 3) (d + 2)

theorem rowZ_zero (cs : List Tri) (p : Nat) : rowZ cs p 0 = [] := rfl
theorem rowZ_yes {cs : List Tri} {p j : Nat} (h : fitsZ cs p (j + 1) = true) : rowZ cs p (j + 1) = rowZ cs p j ++ [((p : Int), (j : Int) + 1)] := by
  simp [rowZ, List.range_succ, List.filter_append, h]
theorem rowZ_no {cs : List Tri} {p j : Nat} (h : fitsZ cs p (j + 1) = false) : rowZ cs p (j + 1) = rowZ cs p j := by
  simp [rowZ, List.range_succ, List.filter_append, h]
theorem allZ_succ (cs : List Tri) (k : Nat) : allZ cs (k + 1) = allZ cs k ++ rowZ cs (k + 3) (k + 2) := by
  simp [allZ, List.range_succ]
theorem rowZ_length (cs : List Tri) (p j : Nat) : (rowZ cs p j).length ≤ j := by
  unfold rowZ
  rw [List.length_map]
  exact Nat.le_trans (List.length_filter_le _ _) (by simp)
theorem allZ_length (cs : List Tri) (k : Nat) : (allZ cs k).length ≤ k * (k + 2) := by
  induction k with
  | zero => simp [allZ]
  | succ k ih =>
    rw [allZ_succ, List.length_append]
    have := rowZ_length cs (k + 3) (k + 2)
    have h1 : k * (k + 2) ≤ k * (k + 3) := Nat.mul_le_mul (Nat.le_refl _) (by omega)
    have h2 : (k + 1) * (k + 1 + 2) = k * (k + 3) + (k + 3) := by rw [Nat.succ_mul]
    omega

/-- All solutions. -/
def solZ (cs : List Tri) : List (Int × Int) := allZ cs 12
theorem solZ_length (cs : List Tri) : (solZ cs).length ≤ 200 := Nat.le_trans (allZ_length cs 12) (by omega)

theorem mem_rowZ {cs : List Tri} {p j : Nat} {x : Int × Int} : x ∈ rowZ cs p j ↔ ∃ e : Nat, e < j ∧ fitsZ cs p (e + 1) = true ∧ x = ((p : Int), (e : Int) + 1) := by
  unfold rowZ
  rw [List.mem_map]
  constructor
  · rintro ⟨e, he, rfl⟩
    obtain ⟨h1, h2⟩ := List.mem_filter.1 he
    exact ⟨e, by simpa using h1, h2, rfl⟩
  · rintro ⟨e, he, h2, rfl⟩
    exact ⟨e, List.mem_filter.2 ⟨by simpa using he, h2⟩, rfl⟩

theorem mem_solZ {cs : List Tri} {x : Int × Int} (h : x ∈ solZ cs) : ∃ p s : Nat, 3 ≤ p ∧ p ≤ 14 ∧ 1 ≤ s ∧ s < p ∧ x = ((p : Int), (s : Int)) ∧ fitsZ cs p s = true := by
  unfold solZ allZ at h
  obtain ⟨d, hd, hx⟩ := List.mem_flatMap.1 h
  obtain ⟨e, he, hf, rfl⟩ := mem_rowZ.1 hx
  have hd' : d < 12 := by simpa using hd
  exact ⟨d + 3, e + 1, by omega, by omega, by omega, by omega, by simp, hf⟩

theorem fitsZ_step (cs : List Tri) (p s k : Nat) (h : k < cs.length) : fitsZ (cs.take (k + 1)) p s = (fitsZ (cs.take k) p s && fitZ (cs.getD k noT) p s) := by
  unfold fitsZ
  rw [List.take_succ_eq_append_getElem h, List.all_append, List.getD_eq_getElem?_getD, List.getElem?_eq_getElem h]
  simp

/-- The clues but one. -/
def outZ (cs : List Tri) (k : Nat) : List Tri := cs.take k ++ cs.drop (k + 1)
theorem outZ_length {cs : List Tri} {k : Nat} (h : k < cs.length) : (outZ cs k).length + 1 = cs.length := by
  unfold outZ
  simp
  omega

theorem puzzleP.mem {xs : List Tri} (h : puzzleP xs) : ∀ c ∈ xs, clueP c := fun c hc => by
  obtain ⟨k, hk, rfl⟩ := List.getElem_of_mem hc
  have := h.2 k hk
  rw [List.getD_eq_getElem?_getD, List.getElem?_eq_getElem hk] at this
  exact this

theorem puzzleP.of_mem {xs : List Tri} (hl : xs.length ≤ 6) (h : ∀ c ∈ xs, clueP c) : puzzleP xs := ⟨hl, fun k hk => by
  rw [List.getD_eq_getElem?_getD, List.getElem?_eq_getElem hk]
  exact h _ (List.getElem_mem hk)⟩

theorem puzzleP.sub {xs ys : List Tri} (h : puzzleP xs) (hs : ys.Sublist xs) : puzzleP ys :=
  .of_mem (Nat.le_trans hs.length_le h.1) fun c hc => h.mem c (hs.subset hc)

theorem outZ_sub (cs : List Tri) (k : Nat) : (outZ cs k).Sublist cs := by
  unfold outZ
  have h : cs = cs.take k ++ cs.drop k := (List.take_append_drop k cs).symm
  have h1 : (cs.drop (k + 1)).Sublist (cs.drop k) := by
    rw [show k + 1 = k + 1 from rfl, ← List.drop_drop]
    exact List.drop_sublist _ _
  calc (cs.take k ++ cs.drop (k + 1)).Sublist (cs.take k ++ cs.drop k) := (List.Sublist.refl _).append h1
    _ = cs := h.symm
end Go.Proofs.YtbgcbokddldmkaaDoor
