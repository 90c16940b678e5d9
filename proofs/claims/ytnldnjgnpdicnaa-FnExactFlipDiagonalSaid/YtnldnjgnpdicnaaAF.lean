/- Regions: diagonals, and the fan of a point. -/
import Derived.Test.YtnldnjgnpdicnaaA3
import Derived.Test.YtnldnjgnpdicnaaZX
import Derived.Test.YtnldnjgnpdicnaaZY
import Derived.Test.YtnldnjgnpdicnaaBA
import Derived.Test.YtnldnjgnpdicnaaRows
namespace Go.Proofs.Ytnldnjgnpdicnaa
open Go.RowKit
set_option linter.unusedVariables false

/-- Is a chord a diagonal? -/
def diagC (p : Int) (c : Int × Int) : Bool := decide (1 < c.2 - c.1 ∧ c.2 - c.1 < p - 1)

set_option maxHeartbeats 400000 in
theorem isDiagonal_lit (p a b : Int) (t : Bool) (w : World) (hp : 3 ≤ p ∧ p ≤ 60) (ha : 0 ≤ a ∧ a ≤ 60) (hb : 0 ≤ b ∧ b ≤ 60) (ht : diagC p (a, b) = t) :
    Calls Try.prog 102 #[.int .i64 p, .agg #[.int .i64 a, .int .i64 b]] w fun e w' => e = .returned (.bool t) ∧ Below w.heap.size w w' := by
  rw [← ht]
  clear ht
  have hw1 : IntKind.i64.wrap (b - a) = b - a := by rw [IntKind.wrap_i64]; omega
  have hw2 : IntKind.i64.wrap (p - 1) = p - 1 := by rw [IntKind.wrap_i64]; omega
  obtain ⟨s, hs⟩ : ∃ s, decide (1 < b - a) = s := ⟨_, rfl⟩
  obtain ⟨r, hr⟩ : ∃ s, decide (b - a < p - 1) = s := ⟨_, rfl⟩
  have he : diagC p (a, b) = (s && r) := by rw [← hs, ← hr]; unfold diagC; simp
  rw [he]
  clear he
  go_enter Try.func102, Try.ntmps102
  cases s <;> cases r
  all_goals
    go_wp2
    go_ret
    exact ⟨rfl, by go_grown⟩

set_option maxHeartbeats 400000 in
theorem reDiagonal_lit (p a b : Int) (t : Bool) (w : World) (hp : 3 ≤ p ∧ p ≤ 60) (hab : 0 ≤ a ∧ a < b ∧ b < p) (ht : diagC p (a, b) = t) :
    Calls Try.prog 98 #[.int .i64 p, .agg #[.int .i64 a, .int .i64 b]] w fun e w' => e = .returned (.bool t) ∧ Below w.heap.size w w' := by
  have he : decide (1 < lenC p (a, b)) = t := by
    rw [← ht]
    unfold diagC lenC
    rw [decide_eq_decide]
    simp only
    omega
  have hp2 := hp.2
  obtain ⟨l, hl⟩ : ∃ l, lenC p (a, b) = l := ⟨_, rfl⟩
  rw [hl] at he
  have HL := Lib.hid hl
  clear hl ht
  subst he
  go_enter Try.func98, Try.ntmps98
  go_wp2_with (first | (go_at_call 128; (with_reducible refine (cdLength_any p a b _ hp2 hab).mono ?_); rw [HL.out]; rintro e w1 ⟨rfl, hb1⟩))
  go_ret
  exact ⟨rfl, Below.trans (by go_grown) (hb1.mono (by simp))⟩

/-- The diagonals from a point to the first ones. -/
def fanL (p q : Nat) : Nat → List (Int × Int)
  | 0 => []
  | k + 1 => fanL p q k ++ if diagC p (mkC q k) then [mkC q k] else []

theorem fanL_yes (p q k : Nat) (h : diagC p (mkC q k) = true) : fanL p q (k + 1) = fanL p q k ++ [mkC q k] := by rw [fanL, if_pos h]
theorem fanL_no (p q k : Nat) (h : diagC p (mkC q k) = false) : fanL p q (k + 1) = fanL p q k := by rw [fanL, if_neg (by rw [h]; simp), List.append_nil]

theorem mem_fanL (p q k : Nat) (x : Int × Int) (h : x ∈ fanL p q k) : ∃ j : Nat, j < k ∧ diagC p (mkC q j) = true ∧ x = mkC q j := by
  induction k with
  | zero => simp [fanL] at h
  | succ k ih =>
    rw [fanL, List.mem_append] at h
    rcases h with h | h
    · obtain ⟨j, h1, h2⟩ := ih h
      exact ⟨j, by omega, h2⟩
    · split at h
      · rename_i hd
        simp at h
        exact ⟨k, by omega, hd, h⟩
      · simp at h

theorem fan_less (p q j k : Nat) (h : j < k) (h1 : diagC p (mkC q j) = true) (h2 : diagC p (mkC q k) = true) : lessC (mkC q j) (mkC q k) = true := by
  rw [lessC_iff]
  unfold diagC mkC at h1 h2
  rw [decide_eq_true_eq] at h1 h2
  unfold mkC
  simp only at h1 h2 ⊢
  omega

theorem insC_last (c : Int × Int) (xs : List (Int × Int)) (h : ∀ x ∈ xs, lessC x c = true) : insC c xs = xs ++ [c] := by
  induction xs with
  | nil => rfl
  | cons x r ih =>
    rw [insC, if_pos (h x (by simp)), ih fun y hy => h y (by simp [hy])]
    rfl

theorem fan_put (p q k : Nat) (h : diagC p (mkC q k) = true) : putC (fanL p q k) (mkC q k) = fanL p q (k + 1) := by
  rw [putC_ins, fanL_yes p q k h]
  refine insC_last _ _ fun x hx => ?_
  obtain ⟨j, h1, h2, rfl⟩ := mem_fanL p q k x hx
  exact fan_less p q j k h1 h2 h

def diagN (p q k : Nat) : Bool := decide (1 < (if k ≤ q then q - k else k - q) ∧ (if k ≤ q then q - k else k - q) + 1 < p)

theorem diagN_is (p q k : Nat) : diagC p (mkC q k) = diagN p q k := by
  unfold diagC diagN mkC
  rw [decide_eq_decide]
  simp only
  split <;> omega

theorem fanL_count (p q k : Nat) : (fanL p q k).length = (List.range k).countP (diagN p q) := by
  induction k with
  | zero => rfl
  | succ k ih =>
    rw [List.range_succ, List.countP_append, ← ih, fanL, List.length_append, diagN_is]
    cases h : diagN p q k <;> simp [h]

theorem fan_check : ((List.range 58).all fun i => (List.range (i + 3)).all fun q => (List.range (i + 3)).countP (diagN (i + 3) q) == i) = true := by decide +kernel

theorem fanL_length (p q : Nat) (hp : 3 ≤ p ∧ p ≤ 60) (hq : q < p) : (fanL p q p).length = p - 3 := by
  rw [fanL_count]
  have h1 := List.all_eq_true.1 fan_check (p - 3) (List.mem_range.2 (by omega))
  have h2 := List.all_eq_true.1 h1 q (List.mem_range.2 (by omega))
  rw [show p - 3 + 3 = p by omega, beq_iff_eq] at h2
  exact h2

theorem fanL_le (p q k : Nat) : (fanL p q k).length ≤ k := by
  rw [fanL_count]
  exact Nat.le_trans List.countP_le_length (by simp)

theorem info_chordF : (Try.prog.info? 52).map (fun i => (i.zero, i.size, i.bytes)) = some (some (.agg #[.int .i64 0, .int .i64 0]), 2, 16) := by kernel_rfl

theorem Pairs.laterF {w w' : World} {B : Nat} {e : TypeId} {v : Value} {xs : List (Int × Int)} (h : Pairs w B e v xs) (hb : Below w.heap.size w w') : Pairs w' B e v xs :=
  World.ownsRow.kept h (Below.by hb) (by cases hv : v.ownBlock with | none => exact .inl rfl | some k => exact .inr (by simp))