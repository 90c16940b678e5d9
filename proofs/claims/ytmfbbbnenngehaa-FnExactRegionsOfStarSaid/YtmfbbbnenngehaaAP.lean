/- Pairs that cross, counted in two ways. -/
import Derived.Test.YtmfbbbnenngehaaZ8
namespace Go.Proofs.Ytmfbbbnenngehaa
open Go.RowKit

theorem rowP_count (xs : List (Int × Int)) (i m : Nat) (h : i + 1 + m ≤ xs.length) : (rowP xs i (i + 1 + m)).length = cntC (xs.getD i (0, 0)) ((xs.drop (i + 1)).take m) := by
  induction m with
  | zero => rw [Nat.add_zero, rowP_none xs i (i + 1) (Nat.le_refl _)]; simp [cntC]
  | succ m ih =>
    rw [cntC_drop_take _ xs i m (by omega), ← ih (by omega), show i + 1 + (m + 1) = (i + 1 + m) + 1 by omega]
    cases hc : crossP (xs.getD i (0, 0)) (xs.getD (i + 1 + m) (0, 0)) with
    | true => rw [rowP_yes xs i _ (by omega) hc]; simp
    | false => rw [rowP_no xs i _ hc]; simp

theorem allP_count (xs : List (Int × Int)) (k : Nat) (hk : k ≤ xs.length) : (allP xs k).length + pairsC (xs.drop k) = pairsC xs := by
  induction k with
  | zero => simp [allP]
  | succ k ih =>
    have h1 := ih (by omega)
    have h2 := rowP_count xs k (xs.length - (k + 1)) (by omega)
    rw [show k + 1 + (xs.length - (k + 1)) = xs.length by omega, List.take_of_length_le (by simp)] at h2
    rw [allP, List.length_append, h2]
    rw [pairsC_drop xs k (by omega)] at h1
    omega

theorem allP_pairs (xs : List (Int × Int)) : (allP xs xs.length).length = pairsC xs := by
  have := allP_count xs xs.length (Nat.le_refl _)
  rw [List.drop_length] at this
  simpa [pairsC] using this

end Go.Proofs.Ytmfbbbnenngehaa
