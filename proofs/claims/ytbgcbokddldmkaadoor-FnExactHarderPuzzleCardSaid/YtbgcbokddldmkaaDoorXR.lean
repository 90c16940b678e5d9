/- Clues that are not needed, the best clue, harder puzzles (pure). -/
import Derived.Test.YtbgcbokddldmkaaDoorX3
namespace Go.Proofs.YtbgcbokddldmkaaDoor
set_option linter.unusedVariables false

/-- Is there just one solution? -/
def oneZ (cs : List Tri) : Bool := (((solZ cs).length : Nat) : Int) == 1

/-- Clues are taken out, from the one with the index k on, as long as one solution stays; n: more than there are clues from k on. -/
def hardZ : Nat → Nat → List Tri → List Tri
  | 0, _, xs => xs
  | n + 1, k, xs => if k < xs.length then (if oneZ (outZ xs k) then hardZ n k (outZ xs k) else hardZ n (k + 1) xs) else xs

theorem hardZ_sub (n k : Nat) (xs : List Tri) : (hardZ n k xs).Sublist xs := by
  induction n generalizing k xs with
  | zero => exact List.Sublist.refl _
  | succ n ih =>
    unfold hardZ
    split
    · split
      · exact (ih k (outZ xs k)).trans (outZ_sub xs k)
      · exact ih (k + 1) xs
    · exact List.Sublist.refl _

theorem hardZ_out {n k : Nat} {xs : List Tri} (h : k < xs.length) (ho : oneZ (outZ xs k) = true) : hardZ (n + 1) k xs = hardZ n k (outZ xs k) := by
  rw [hardZ, if_pos h, if_pos ho]
theorem hardZ_in {n k : Nat} {xs : List Tri} (h : k < xs.length) (ho : oneZ (outZ xs k) = false) : hardZ (n + 1) k xs = hardZ n (k + 1) xs := by
  rw [hardZ, if_pos h, if_neg (by rw [ho]; simp)]
theorem hardZ_end {n k : Nat} {xs : List Tri} (h : ¬ k < xs.length) : hardZ n k xs = xs := by
  cases n with
  | zero => rfl
  | succ n => rw [hardZ, if_neg h]

/-- The best of the first k clues (the first one that alone the fewest stars fit), and how many fit it. -/
def aloneZ (cs : List Tri) (k : Nat) : Nat := (solZ [cs.getD k noT]).length
def bestZ (cs : List Tri) : Nat → Nat × Nat
  | 0 => (0, 0)
  | k + 1 => if k = 0 ∨ aloneZ cs k < (bestZ cs k).2 then (k, aloneZ cs k) else bestZ cs k

theorem bestZ_new {cs : List Tri} {k : Nat} (h : k = 0 ∨ aloneZ cs k < (bestZ cs k).2) : bestZ cs (k + 1) = (k, aloneZ cs k) := by rw [bestZ, if_pos h]
theorem bestZ_old {cs : List Tri} {k : Nat} (h : ¬ (k = 0 ∨ aloneZ cs k < (bestZ cs k).2)) : bestZ cs (k + 1) = bestZ cs k := by rw [bestZ, if_neg h]
theorem bestZ_lt (cs : List Tri) (k : Nat) : (bestZ cs k).1 ≤ k ∧ (bestZ cs k).2 ≤ 200 := by
  induction k with
  | zero => simp [bestZ]
  | succ k ih =>
    unfold bestZ
    split
    · exact ⟨by simp, solZ_length _⟩
    · exact ⟨by omega, ih.2⟩

/-- Are there as many solutions without the clue k? -/
def needC (cs : List Tri) (k : Nat) : Bool := (((solZ (outZ cs k)).length : Nat) : Int) == (((solZ cs).length : Nat) : Int)

end Go.Proofs.YtbgcbokddldmkaaDoor
