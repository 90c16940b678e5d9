/- How many threads meet: counts, and the model. -/
import Derived.Test.YtnldnjgnpdicnaaU4
import Derived.Test.YtnldnjgnpdicnaaBA
import Derived.Test.YtnldnjgnpdicnaaES
namespace Go.Proofs.Ytnldnjgnpdicnaa
open Go.RowKit
set_option linter.unusedVariables false

theorem Pairs.cap_le {w : World} {B n cap : Nat} {a : Option Addr} {e : TypeId} {xs : List (Int × Int)} (h : Pairs w B e (.slice a n cap) xs) : xs.length ≤ cap ∧ cap ≤ maxLen := by
  obtain ⟨hl, ⟨hv, hn⟩ | ⟨g, c, cur, hv, hB, hg, hn, hm, hs, ht⟩⟩ := h
  · cases hv
    exact ⟨by omega, by unfold maxLen; omega⟩
  · cases hv
    exact ⟨hn, hm⟩

/-- Two threads cross. -/
def meetP (x y : Int × Int) : Bool := meetB x.1 x.2 y.1 y.2

theorem meetP_comm (x y : Int × Int) : meetP x y = meetP y x := by
  unfold meetP meetB
  rw [decide_eq_decide]
  omega

/-- How many threads of a list cross a chord. -/
def cntM (c : Int × Int) (xs : List (Int × Int)) : Nat := xs.countP (meetP c)

theorem cntM_snoc (c x : Int × Int) (xs : List (Int × Int)) : cntM c (xs ++ [x]) = cntM c xs + if meetP c x then 1 else 0 := by
  unfold cntM
  rw [List.countP_append]
  simp [List.countP_cons]

theorem cntM_take (c : Int × Int) (xs : List (Int × Int)) (k : Nat) (h : k < xs.length) : cntM c (xs.take (k + 1)) = cntM c (xs.take k) + if meetP c (xs.getD k (0, 0)) then 1 else 0 := by
  rw [List.take_succ_eq_append_getElem h, cntM_snoc]
  simp [List.getD, List.getElem?_eq_getElem h]

theorem cntM_le (c : Int × Int) (xs : List (Int × Int)) : cntM c xs ≤ xs.length := List.countP_le_length

/-- How many pairs cross. -/
def pairsM : List (Int × Int) → Nat
  | [] => 0
  | x :: r => cntM x r + pairsM r

theorem pairsM_snoc (xs : List (Int × Int)) (x : Int × Int) : pairsM (xs ++ [x]) = pairsM xs + cntM x xs := by
  induction xs with
  | nil => simp [pairsM, cntM]
  | cons y r ih =>
    show cntM y (r ++ [x]) + pairsM (r ++ [x]) = cntM y r + pairsM r + cntM x (y :: r)
    rw [ih, cntM_snoc, meetP_comm y x]
    unfold cntM
    rw [List.countP_cons]
    omega

theorem pairsM_take (xs : List (Int × Int)) (k : Nat) (h : k < xs.length) : pairsM (xs.take (k + 1)) = pairsM (xs.take k) + cntM (xs.getD k (0, 0)) (xs.take k) := by
  rw [List.take_succ_eq_append_getElem h, pairsM_snoc]
  simp [List.getD, List.getElem?_eq_getElem h]

theorem pairsM_drop (xs : List (Int × Int)) (k : Nat) (h : k < xs.length) : pairsM (xs.drop k) = cntM (xs.getD k (0, 0)) (xs.drop (k + 1)) + pairsM (xs.drop (k + 1)) := by
  rw [List.drop_eq_getElem_cons h]
  simp [pairsM, List.getD, List.getElem?_eq_getElem h]

theorem pairsM_le (xs : List (Int × Int)) : pairsM xs ≤ xs.length * xs.length := by
  induction xs with
  | nil => simp [pairsM]
  | cons x r ih =>
    show cntM x r + pairsM r ≤ _
    have := cntM_le x r
    rw [List.length_cons, Nat.add_mul, Nat.mul_add]
    omega

theorem cntM_drop_take (c : Int × Int) (xs : List (Int × Int)) (i k : Nat) (h : i + 1 + k < xs.length) : cntM c ((xs.drop (i + 1)).take (k + 1)) = cntM c ((xs.drop (i + 1)).take k) + if meetP c (xs.getD (i + 1 + k) (0, 0)) then 1 else 0 := by
  rw [cntM_take c (xs.drop (i + 1)) k (by simp; omega), getD_drop]

theorem add_sum (f g : (Int × Int) → Nat) (xs : List (Int × Int)) : (xs.map (fun x => f x + g x)).sum = (xs.map f).sum + (xs.map g).sum := by
  induction xs with
  | nil => rfl
  | cons x r ih => simp only [List.map_cons, List.sum_cons, ih]; omega

theorem cnt_sum (c : Int × Int) (xs : List (Int × Int)) : (xs.map (fun y => if meetP y c then 1 else 0)).sum = cntM c xs := by
  induction xs with
  | nil => rfl
  | cons x r ih =>
    simp only [List.map_cons, List.sum_cons, ih]
    unfold cntM
    rw [List.countP_cons, meetP_comm x c]
    omega

/-- Each pair is counted on both of its threads. -/
theorem twice_pairs (xs : List (Int × Int)) : (xs.map (fun x => cntM x xs)).sum = 2 * pairsM xs := by
  induction xs with
  | nil => rfl
  | cons x r ih =>
    have e : ∀ y, cntM y (x :: r) = cntM y r + (if meetP y x then 1 else 0) := fun y => by unfold cntM; rw [List.countP_cons]
    have hx : meetP x x = false := by unfold meetP meetB; simp
    simp only [List.map_cons, List.sum_cons]
    rw [e x, hx, show (fun y => cntM y (x :: r)) = fun y => cntM y r + (if meetP y x then 1 else 0) from funext e, add_sum, cnt_sum, ih]
    simp only [pairsM]
    simp
    omega

theorem selT_cnt (c : Int × Int) (xs : List (Int × Int)) (k : Nat) (h : k ≤ xs.length) : (selT (fun k => meetP c (xs.getD k (0, 0))) k).length = cntM c (xs.take k) := by
  induction k with
  | zero => simp [selT_zero, cntM]
  | succ k ih =>
    rw [cntM_take c xs k (by omega), ← ih (by omega)]
    cases hc : meetP c (xs.getD k (0, 0)) with
    | true => rw [← selT_yes _ k hc]; simp
    | false => rw [← selT_no _ k hc]; simp

end Go.Proofs.Ytnldnjgnpdicnaa
