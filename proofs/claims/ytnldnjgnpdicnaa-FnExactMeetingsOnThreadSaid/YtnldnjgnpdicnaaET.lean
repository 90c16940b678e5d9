/- The numbers of which something is told, as lists; calls that return a list of integers of their own. -/
import Derived.Test.YtnldnjgnpdicnaaBA
namespace Go.Proofs.Ytnldnjgnpdicnaa
open Go.RowKit

/-- The numbers less than n of which c holds. -/
def selT (c : Nat → Bool) (n : Nat) : List Int := ((List.range n).filter c).map fun (i : Nat) => (i : Int)

theorem selT_zero (c : Nat → Bool) : selT c 0 = [] := rfl

theorem selT_yes (c : Nat → Bool) (n : Nat) (h : c n = true) : selT c n ++ [(n : Int)] = selT c (n + 1) := by
  simp [selT, List.range_succ, List.filter_append, h]

theorem selT_no (c : Nat → Bool) (n : Nat) (h : c n = false) : selT c n = selT c (n + 1) := by
  simp [selT, List.range_succ, List.filter_append, h]

theorem selT_length (c : Nat → Bool) (n : Nat) : (selT c n).length ≤ n := by
  have := List.length_filter_le c (List.range n)
  rw [List.length_range] at this
  simpa [selT] using this

theorem selT_congr (c d : Nat → Bool) (n : Nat) (h : ∀ k, k < n → c k = d k) : selT c n = selT d n := by
  unfold selT
  rw [List.filter_congr fun k hk => h k (List.mem_range.1 hk)]

/-- A call returns the integers xs in a slice of its own. -/
def GivesT (w : World) (xs : List Int) (e : Ending) (w' : World) : Prop := ∃ v, e = .returned v ∧ Ints w' w.heap.size 3 v xs ∧ Below w.heap.size w w'

/-- What a call made since w. -/
theorem giveT {w w' : World} {v : Value} {xs : List Int} (b : Bool) {B : Nat} (hI : Ints w' B 3 v xs) (hB : w.heap.size ≤ B) (hb : Below w.heap.size w w') : Gives (IntsIn 3) w xs b (.returned (.tuple #[v, .bool b])) w' :=
  ⟨v, rfl, ⟨hI.mono hB, fun k hk => (hI.own k hk).2⟩, hb⟩

theorem giveNoT {w w' : World} (hb : Below w.heap.size w w') : Gives (IntsIn 3) w [] false (.returned (.tuple #[.slice none 0 0, .bool false])) w' :=
  ⟨_, rfl, IntsIn.nil _ _ _ _, hb⟩

end Go.Proofs.Ytnldnjgnpdicnaa
