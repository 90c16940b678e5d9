/- How many whole heights are under threads at a place. Nothing of the program. -/
import Derived.Test.YtnldnjgnpdicnaaFH
import Derived.Test.YtnldnjgnpdicnaaU7
import Derived.Test.YtnldnjgnpdicnaaB8
namespace Go.Proofs.Ytnldnjgnpdicnaa
open Go.RowKit
set_option linter.unusedVariables false

/-- How many whole heights of at least 0 are under one thread at x. -/
def col1 (x : Int) (p : Int × Int) : Nat := if x ≤ p.1 then hgt p.1 p.2 x / p.1.toNat + 1 else 0

def colT (x : Int) : List (Int × Int) → Nat
  | [] => 0
  | p :: r => max (col1 x p) (colT x r)

theorem under_col1 (x y a b : Int) (h : isT a b) (hx : 0 ≤ x) (hy : 0 ≤ y) : underP x y (a, b) = decide (y < (col1 x (a, b) : Nat)) := by
  have hh := h
  obtain ⟨⟨h1, h2⟩, h3, h4⟩ := hh
  unfold underP col1
  rw [decide_eq_decide]
  simp only
  by_cases hxa : x ≤ a
  · rw [if_pos hxa]
    obtain ⟨m, k, hm, em, hm1, rfl, hk1, hk2, _, _⟩ := hgt_letters a b x h ⟨hx, hxa⟩
    rw [hm, Int.toNat_natCast]
    have e : (x * b + y * (k : Int) ≤ (k : Int) * b) ↔ y * (k : Int) ≤ (m : Int) := by
      rw [← em, Int.mul_sub, Int.mul_comm b, Int.mul_comm b]
      omega
    rw [e]
    obtain ⟨y, rfl⟩ := Int.eq_ofNat_of_zero_le hy
    rw [← Int.natCast_mul]
    have hd := Nat.le_div_iff_mul_le (x := y) (y := m) (k := k) (by omega)
    generalize m / k = q at *
    omega
  · rw [if_neg hxa]
    have e1 : (a + 1) * b ≤ x * b := Int.mul_le_mul_of_nonneg_right (by omega) (by omega)
    have e2 : 0 ≤ y * a := Int.mul_nonneg hy (by omega)
    rw [Int.add_mul] at e1
    constructor
    · intro h; omega
    · intro h; omega

theorem colT_ge (x : Int) : ∀ (xs : List (Int × Int)) (p : Int × Int), p ∈ xs → col1 x p ≤ colT x xs
  | [], p, h => by simp at h
  | a :: r, p, h => by
    rcases List.mem_cons.1 h with rfl | h
    · exact Nat.le_max_left _ _
    · exact Nat.le_trans (colT_ge x r p h) (Nat.le_max_right _ _)

theorem colT_at (x : Int) : ∀ (xs : List (Int × Int)), colT x xs = 0 ∨ ∃ p, p ∈ xs ∧ colT x xs = col1 x p
  | [] => .inl rfl
  | a :: r => by
    have hm : colT x (a :: r) = max (col1 x a) (colT x r) := rfl
    by_cases h : colT x r ≤ col1 x a
    · exact .inr ⟨a, List.mem_cons_self, by rw [hm]; omega⟩
    · rcases colT_at x r with e | ⟨p, hp, e⟩
      · omega
      · exact .inr ⟨p, List.mem_cons_of_mem _ hp, by rw [hm]; omega⟩

theorem any_colT (x y : Int) (hx : 0 ≤ x) (hy : 0 ≤ y) : ∀ (xs : List (Int × Int)), (∀ p, p ∈ xs → isT p.1 p.2) → xs.any (underP x y) = decide (y < (colT x xs : Nat))
  | [], _ => by
    rw [List.any_nil, eq_comm, decide_eq_false_iff_not]
    show ¬ y < ((0 : Nat) : Int)
    omega
  | a :: r, h => by
    rw [List.any_cons, any_colT x y hx hy r (fun p hp => h p (List.mem_cons_of_mem _ hp)), under_col1 x y a.1 a.2 (h a List.mem_cons_self) hx hy, ← Bool.decide_or, decide_eq_decide]
    show _ ↔ y < ((max (col1 x a) (colT x r) : Nat) : Int)
    show y < (col1 x a : Int) ∨ _ ↔ _
    omega

theorem mem_at {xs : List (Int × Int)} {p : Int × Int} (h : p ∈ xs) : ∃ j, j < xs.length ∧ xs.getD j (0, 0) = p := by
  obtain ⟨j, hj, e⟩ := List.getElem_of_mem h
  exact ⟨j, hj, by rw [List.getD_eq_getElem?_getD, List.getElem?_eq_getElem hj]; exact e⟩

theorem at_mem (xs : List (Int × Int)) (j : Nat) (hj : j < xs.length) : xs.getD j (0, 0) ∈ xs := by
  rw [List.getD_eq_getElem?_getD, List.getElem?_eq_getElem hj]
  exact List.getElem_mem hj

theorem goodT.mem {xs : List (Int × Int)} (hg : goodT xs) (p : Int × Int) (h : p ∈ xs) : isT p.1 p.2 := by
  obtain ⟨j, hj, rfl⟩ := mem_at h
  exact hg.at j hj

theorem col1_reach (xs : List (Int × Int)) (x : Int) (j : Nat) : col1 x (xs.getD j (0, 0)) = if reachP xs x j then hN xs x j / hD xs j + 1 else 0 := by
  unfold col1 reachP hN hD
  by_cases h : x ≤ (xs.getD j (0, 0)).1
  · rw [if_pos h, if_pos (decide_eq_true h)]
  · rw [if_neg h, if_neg (by simpa using h)]

theorem div_le_div_frac {n1 d1 n2 d2 : Nat} (h1 : 0 < d1) (h2 : 0 < d2) (h : n1 * d2 ≤ n2 * d1) : n1 / d1 ≤ n2 / d2 := by
  rw [Nat.le_div_iff_mul_le h2]
  refine Nat.le_of_mul_le_mul_right (c := d1) ?_ h1
  calc n1 / d1 * d2 * d1 = n1 / d1 * d1 * d2 := Nat.mul_right_comm ..
    _ ≤ n1 * d2 := Nat.mul_le_mul_right _ (Nat.div_mul_le_self _ _)
    _ ≤ n2 * d1 := h

theorem low_div (n d : Nat) (hd : 1 ≤ d) : lowA n d / lowB n d = n / d := by
  obtain ⟨g, x, y, _, g1, hx, hy, en, ed, _⟩ := low_letters n d hd
  rw [hx, hy, en, ed, Nat.mul_div_mul_right _ _ g1]

theorem colT_best {xs : List (Int × Int)} (hg : goodT xs) {x : Int} {b : Nat} (h : BestTo xs x xs.length b) : colT x xs = lowA (hN xs x b) (hD xs b) / lowB (hN xs x b) (hD xs b) + 1 := by
  have hb := hD_pos hg b h.1
  rw [low_div _ _ hb]
  refine Nat.le_antisymm ?_ ?_
  · rcases colT_at x xs with e | ⟨p, hp, e⟩
    · rw [e]; exact Nat.zero_le _
    · obtain ⟨j, hj, rfl⟩ := mem_at hp
      rw [e, col1_reach]
      cases hr : reachP xs x j with
      | false => exact Nat.zero_le _
      | true =>
        have := div_le_div_frac (hD_pos hg j hj) hb (h.2.2 j hj hr).1
        simp only [if_true]
        omega
  · have := colT_ge x xs _ (at_mem xs b h.1)
    rw [col1_reach, h.2.1] at this
    exact this

theorem colT_none {xs : List (Int × Int)} {x : Int} (h : ∀ j, j < xs.length → reachP xs x j = false) : colT x xs = 0 := by
  rcases colT_at x xs with e | ⟨p, hp, e⟩
  · exact e
  · obtain ⟨j, hj, rfl⟩ := mem_at hp
    rw [e, col1_reach, h j hj]
    rfl

theorem colT_le {xs : List (Int × Int)} (hg : ∀ p, p ∈ xs → isT p.1 p.2) {x : Int} (hx : 0 ≤ x) : colT x xs ≤ 101 := by
  rcases colT_at x xs with e | ⟨p, hp, e⟩
  · omega
  · rw [e]
    unfold col1
    by_cases h : x ≤ p.1
    · rw [if_pos h]
      obtain ⟨m, k, hm, em, hm1, hk, hk1, hk2, h5, h6⟩ := hgt_letters p.1 p.2 x (hg p hp) ⟨hx, h⟩
      obtain ⟨_, h7, h8⟩ := hg p hp
      rw [hm, hk, Int.toNat_natCast]
      have e1 : p.2 * (p.1 - x) ≤ 100 * (k : Int) := Int.mul_le_mul h8 (by omega) h5 (by omega)
      have e2 : m / k ≤ 100 := Nat.div_le_of_le_mul (by rw [Nat.mul_comm]; omega)
      omega
    · rw [if_neg h]
      omega

/-- How many points are under the threads, at the first n places. -/
def cuT (xs : List (Int × Int)) : Nat → Nat
  | 0 => 0
  | n + 1 => cuT xs n + (colT ((n + 1 : Nat) : Int) xs - 1)

theorem cuT_le {xs : List (Int × Int)} (hg : ∀ p, p ∈ xs → isT p.1 p.2) : ∀ n, cuT xs n ≤ n * 100
  | 0 => Nat.le_refl _
  | n + 1 => by
    have h1 := cuT_le hg n
    have h2 := colT_le hg (x := ((n + 1 : Nat) : Int)) (by omega)
    show cuT xs n + (colT ((n + 1 : Nat) : Int) xs - 1) ≤ _
    omega

/-- The columns' array of which the first n places are filled. -/
def colL (xs : List (Int × Int)) (n : Nat) : List Int := ((List.range n).map fun (t : Nat) => ((colT (t : Int) xs : Nat) : Int)) ++ List.replicate (101 - n) 0

theorem colL_length (xs : List (Int × Int)) (n : Nat) (h : n ≤ 101) : (colL xs n).length = 101 := by simp [colL]; omega

theorem colL_set (xs : List (Int × Int)) (n : Nat) (h : n < 101) : (colL xs n).set n ((colT (n : Int) xs : Nat) : Int) = colL xs (n + 1) := by
  unfold colL
  have e : 101 - n = (101 - (n + 1)) + 1 := by omega
  rw [List.set_append_right _ _ (by simp), List.length_map, List.length_range, Nat.sub_self, e, List.replicate_succ, List.set_cons_zero, List.range_succ, List.map_append]
  simp

theorem colL_skip (xs : List (Int × Int)) (n : Nat) (h : n < 101) (h0 : colT (n : Int) xs = 0) : colL xs n = colL xs (n + 1) := by
  unfold colL
  have e : 101 - n = (101 - (n + 1)) + 1 := by omega
  rw [e, List.replicate_succ, List.range_succ, List.map_append, List.append_assoc]
  simp [h0]

theorem colL_get (xs : List (Int × Int)) (n t : Nat) (h : t < n) : (colL xs n).getD t 0 = ((colT (t : Int) xs : Nat) : Int) := by
  unfold colL
  rw [List.getD, List.getElem?_append_left (by simpa using h)]
  simp [List.getElem?_range h]

theorem colL_zero (xs : List (Int × Int)) : colL xs 0 = List.replicate 101 0 := rfl

end Go.Proofs.Ytnldnjgnpdicnaa
