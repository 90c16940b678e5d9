/- Pairings of twelve points by crossings: the numbers held against each other, by the kernel, by the first chord. Nothing of the program. -/
import Derived.Test.YtnnhjnogebicbabQA
namespace Go.Proofs.Ytnnhjnogebicbab

/-- The pairings of twelve points whose first chord leads to point k. -/
def brN (k : Nat) : List Nat := histN 12 11 (((List.replicate 12 false).set 0 true).set k true) ([] ++ [(0, k)]) (0 + List.countP (crossN (0, k)) [])

theorem br1 : brN 1 = [42, 120, 180, 195, 165, 117, 70, 35, 15, 5, 1] := by decide +kernel
theorem br2 : brN 2 = [0, 42, 120, 180, 195, 165, 117, 70, 35, 15, 5, 1] := by decide +kernel
theorem br3 : brN 3 = [14, 28, 56, 112, 162, 179, 156, 113, 69, 35, 15, 5, 1] := by decide +kernel
theorem br4 : brN 4 = [0, 28, 70, 98, 118, 136, 145, 131, 100, 64, 34, 15, 5, 1] := by decide +kernel
theorem br5 : brN 5 = [10, 17, 39, 89, 134, 148, 133, 112, 92, 72, 50, 29, 14, 5, 1] := by decide +kernel
theorem br6 : brN 6 = [0, 25, 60, 82, 102, 127, 144, 134, 104, 69, 42, 26, 16, 9, 4, 1] := by decide +kernel
theorem br7 : brN 7 = [10, 17, 39, 89, 134, 148, 133, 112, 92, 72, 50, 29, 14, 5, 1] := by decide +kernel
theorem br8 : brN 8 = [0, 28, 70, 98, 118, 136, 145, 131, 100, 64, 34, 15, 5, 1] := by decide +kernel
theorem br9 : brN 9 = [14, 28, 56, 112, 162, 179, 156, 113, 69, 35, 15, 5, 1] := by decide +kernel
theorem br10 : brN 10 = [0, 42, 120, 180, 195, 165, 117, 70, 35, 15, 5, 1] := by decide +kernel
theorem br11 : brN 11 = [42, 120, 180, 195, 165, 117, 70, 35, 15, 5, 1] := by decide +kernel

theorem first12 : firstF (List.replicate 12 false) 12 = 0 := by decide

theorem hist12 : histN 12 12 (List.replicate 12 false) [] 0 = sumL (fun k => if Nat.blt 0 k && !(List.replicate 12 false).getD k false then brN k else []) 12 := by
  rw [histN]
  simp only [first12]
  rw [if_neg (by decide)]
  rfl

theorem same12 : sameL 12 = true := by
  unfold sameL
  rw [hist12]
  simp only [sumL]
  rw [if_neg (by decide), if_pos (by decide), br1, if_pos (by decide), br2, if_pos (by decide), br3, if_pos (by decide), br4, if_pos (by decide), br5, if_pos (by decide), br6, if_pos (by decide), br7, if_pos (by decide), br8, if_pos (by decide), br9, if_pos (by decide), br10, if_pos (by decide), br11]
  decide +kernel

end Go.Proofs.Ytnnhjnogebicbab
