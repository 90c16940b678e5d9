/- The chords of a star, in order; turned they are the same; how many cross. Nothing of the program's text. -/
import Derived.Test.YtnldnjgnpdicnaaBA
import Derived.Test.YtnldnjgnpdicnaaC1
namespace Go.Proofs.Ytnldnjgnpdicnaa

/-- The chord of two points. -/
def mkC (a b : Int) : Int × Int := (min a b, max a b)

theorem mkC_comm (a b : Int) : mkC a b = mkC b a := by unfold mkC; rw [Int.min_comm, Int.max_comm]

/-- The line from point q. -/
def lineC (p s : Nat) (q : Nat) : Int × Int := mkC (q : Int) (((q + s) % p : Nat) : Int)

/-- All lines from so many points on, in their order. -/
def linesTo (p s n : Nat) : List (Int × Int) := (List.range n).map (lineC p s)

/-- All chords of a star, in order. -/
def starC (p s : Nat) : List (Int × Int) := putAll [] (linesTo p s p)

theorem starC_sorted (p s : Nat) : SortedC (starC p s) := putAll_sorted _ _ sortedC_nil

theorem mem_starC (p s : Nat) (x : Int × Int) : x ∈ starC p s ↔ ∃ q, q < p ∧ lineC p s q = x := by
  unfold starC linesTo
  rw [mem_putAll]
  simp

theorem starC_length (p s : Nat) : (starC p s).length ≤ p := by
  have h := putAll_length [] (linesTo p s p)
  have e : (linesTo p s p).length = p := by simp [linesTo]
  unfold starC
  rw [e] at h
  simpa using h

/-- A chord with each point told as by farther. -/
def turnC (p by_ : Nat) (c : Int × Int) : Int × Int := mkC ((c.1 + by_) % p) ((c.2 + by_) % p)

theorem turnC_mk (p t : Nat) (a b : Int) : turnC p t (mkC a b) = mkC ((a + t) % p) ((b + t) % p) := by
  unfold turnC mkC
  by_cases h : a ≤ b
  · simp [Int.min_eq_left h, Int.max_eq_right h]
  · have h2 : b ≤ a := by omega
    simp only [Int.min_eq_right h2, Int.max_eq_left h2]
    rw [Int.min_comm, Int.max_comm]

theorem turnC_line (p s t q : Nat) : turnC p t (lineC p s q) = lineC p s ((q + t) % p) := by
  unfold lineC
  rw [turnC_mk]
  have e : ((q + s) % p + t) % p = ((q + t) % p + s) % p := by
    rw [Nat.mod_add_mod, Nat.mod_add_mod]
    congr 1
    omega
  norm_cast
  rw [e]

/-- Each point is another one told so much farther. -/
theorem turned_back (p t q : Nat) (hq : q < p) (ht : t < p) : ∃ r, r < p ∧ (r + t) % p = q := by
  by_cases h : t ≤ q
  · exact ⟨q - t, by omega, by rw [Nat.sub_add_cancel h, Nat.mod_eq_of_lt hq]⟩
  · refine ⟨q + p - t, by omega, ?_⟩
    rw [Nat.sub_add_cancel (by omega), Nat.add_mod_right, Nat.mod_eq_of_lt hq]

theorem starC_turned (p s t : Nat) (hp : 0 < p) (ht : t < p) : putAll [] ((starC p s).map (turnC p t)) = starC p s := by
  refine SortedC.ext (putAll_sorted _ _ sortedC_nil) (starC_sorted p s) fun x => ?_
  rw [mem_putAll, mem_starC]
  constructor
  · rintro (h | h)
    · simp at h
    · obtain ⟨y, hy, rfl⟩ := List.mem_map.1 h
      obtain ⟨q, hq, rfl⟩ := (mem_starC p s y).1 hy
      exact ⟨(q + t) % p, Nat.mod_lt _ hp, (turnC_line p s t q).symm⟩
  · rintro ⟨q, hq, rfl⟩
    obtain ⟨r, hr, e⟩ := turned_back p t q hq ht
    exact .inr (List.mem_map.2 ⟨lineC p s r, (mem_starC p s _).2 ⟨r, hr, rfl⟩, by rw [turnC_line, e]⟩)

/-- Lists in order with the lines of a turned star are its chords. -/
theorem starC_unique (p s t : Nat) (hp : 0 < p) (ht : t < p) (ys : List (Int × Int)) (hs : SortedC ys) (hm : ∀ x, x ∈ ys ↔ ∃ q, q < p ∧ lineC p s ((q + t) % p) = x) : ys = starC p s := by
  refine SortedC.ext hs (starC_sorted p s) fun x => ?_
  rw [hm, mem_starC]
  constructor
  · rintro ⟨q, hq, rfl⟩
    exact ⟨_, Nat.mod_lt _ hp, rfl⟩
  · rintro ⟨q, hq, rfl⟩
    obtain ⟨r, hr, e⟩ := turned_back p t q hq ht
    exact ⟨r, hr, by rw [e]⟩

theorem lineC_order (p s q : Nat) (h1 : 1 ≤ s) (h2 : s < p) (hq : q < p) : 0 ≤ (lineC p s q).1 ∧ (lineC p s q).1 < (lineC p s q).2 ∧ (lineC p s q).2 < p := by
  have hne : q ≠ (q + s) % p := by
    intro e
    by_cases h : q + s < p
    · rw [Nat.mod_eq_of_lt h] at e; omega
    · have e2 : (q + s) % p = q + s - p := by
        rw [Nat.mod_eq_sub_mod (by omega), Nat.mod_eq_of_lt (by omega)]
      omega
  have hl : (q + s) % p < p := Nat.mod_lt _ (by omega)
  unfold lineC mkC
  simp only
  omega

/-- Two chords cross. -/
def crossP (x y : Int × Int) : Bool := crossB x.1 x.2 y.1 y.2

theorem crossP_comm (x y : Int × Int) : crossP x y = crossP y x := by
  unfold crossP crossB
  rw [decide_eq_decide]
  omega

/-- How many chords of a list cross a chord. -/
def cntC (c : Int × Int) (xs : List (Int × Int)) : Nat := xs.countP (crossP c)

theorem cntC_snoc (c x : Int × Int) (xs : List (Int × Int)) : cntC c (xs ++ [x]) = cntC c xs + if crossP c x then 1 else 0 := by
  unfold cntC
  rw [List.countP_append]
  simp [List.countP_cons]

theorem cntC_take (c : Int × Int) (xs : List (Int × Int)) (k : Nat) (h : k < xs.length) : cntC c (xs.take (k + 1)) = cntC c (xs.take k) + if crossP c (xs.getD k (0, 0)) then 1 else 0 := by
  rw [List.take_succ_eq_append_getElem h, cntC_snoc]
  simp [List.getD, List.getElem?_eq_getElem h]

theorem cntC_le (c : Int × Int) (xs : List (Int × Int)) : cntC c xs ≤ xs.length := List.countP_le_length

/-- How many pairs cross. -/
def pairsC : List (Int × Int) → Nat
  | [] => 0
  | x :: r => cntC x r + pairsC r

theorem pairsC_snoc (xs : List (Int × Int)) (x : Int × Int) : pairsC (xs ++ [x]) = pairsC xs + cntC x xs := by
  induction xs with
  | nil => simp [pairsC, cntC]
  | cons y r ih =>
    show cntC y (r ++ [x]) + pairsC (r ++ [x]) = cntC y r + pairsC r + cntC x (y :: r)
    rw [ih, cntC_snoc, crossP_comm y x]
    unfold cntC
    rw [List.countP_cons]
    omega

theorem pairsC_take (xs : List (Int × Int)) (k : Nat) (h : k < xs.length) : pairsC (xs.take (k + 1)) = pairsC (xs.take k) + cntC (xs.getD k (0, 0)) (xs.take k) := by
  rw [List.take_succ_eq_append_getElem h, pairsC_snoc]
  simp [List.getD, List.getElem?_eq_getElem h]

theorem pairsC_drop (xs : List (Int × Int)) (k : Nat) (h : k < xs.length) : pairsC (xs.drop k) = cntC (xs.getD k (0, 0)) (xs.drop (k + 1)) + pairsC (xs.drop (k + 1)) := by
  rw [List.drop_eq_getElem_cons h]
  simp [pairsC, List.getD, List.getElem?_eq_getElem h]

theorem pairsC_le (xs : List (Int × Int)) : pairsC xs ≤ xs.length * xs.length := by
  induction xs with
  | nil => simp [pairsC]
  | cons x r ih =>
    show cntC x r + pairsC r ≤ _
    have := cntC_le x r
    rw [List.length_cons, Nat.add_mul, Nat.mul_add]
    omega

end Go.Proofs.Ytnldnjgnpdicnaa
