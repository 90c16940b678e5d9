/- The steps of all stars of so many points, and those with one string. -/
import Derived.Test.YtlkehdjfmmghjabV3
import Derived.Test.YtlkehdjfmmghjabB4
namespace Go.Proofs.Ytlkehdjfmmghjab
open Go.RowKit

set_option maxHeartbeats 400000 in
theorem iStarsOf_yes (p : Nat) (w : World) (h : 3 ≤ p ∧ p ≤ 60) :
    Calls Try.prog 52 #[.int .i64 p] w (Gives (IntsIn 3) w (upTo (p / 2)) true) := by
  obtain ⟨n, hn⟩ : ∃ n, n = p / 2 := ⟨_, rfl⟩
  have hq : (p : Int) / 2 = (n : Int) := by rw [hn]; simp
  have hn2 : n ≤ 30 := by omega
  rw [← hn]
  have hmk := make_ints (P := Try.prog) Try.underlying40 info_int n (by omega)
  clear hn
  obtain ⟨h1, h2⟩ := h
  go_enter Try.func52, Try.ntmps52
  go_wp2_with (first | (go_at_call 84; (with_reducible refine (isPointCount_yes _ _ (by omega)).mono ?_); rintro e w1 ⟨rfl, rfl⟩))
  clear hmk hq
  have HI0 := Lib.hid (Ints.made w w.heap.size 3 n (Nat.le_refl _) (by omega))
  have HB0 := Lib.hid ((Below.refl w.heap.size w).alloc (Nat.le_refl _) (.cells (zeroInts n) 3))
  have HL := Lib.hid (fillTo_zero (fun (i : Nat) => (i : Int) + 1) n)
  go_loopw [14] (fun i wr => ∃ j : Nat, j ≤ n ∧ i = .int .i64 j ∧ Ints wr w.heap.size 3 (.slice (some ⟨w.heap.size, 0, none⟩) n n) (fillTo (fun (i : Nat) => (i : Int) + 1) n j) ∧ Below w.heap.size w wr) (fun i _ => n - (intOf i).toNat)
  case atStart => exact ⟨0, by omega, rfl, by rw [HL.out]; exact HI0.out, HB0.out⟩
  case round =>
    obtain ⟨j, hj, rfl, hI, hB⟩ := hrel
    by_cases hlt : j < n
    · have hst := hI.stored j ((j : Int) + 1)
      rw [fillTo_set (fun (i : Nat) => (i : Int) + 1) n j hlt] at hst
      have cc := hI.cellAt j (by rw [fillTo_length _ n j hj]; exact hlt)
      have ff := hI.frozenAt j
      have HS := Lib.hid hst
      clear hst hI
      go_wp2
      go_roundw
      case rel => exact ⟨j + 1, by omega, by go_num, HS.out.1, hB.setCell (by simp) _⟩
      case measure => simp [intOf]; omega
    · obtain rfl : j = n := by omega
      rw [fillTo_all] at hI
      go_wp2
      go_ret2
      exact giveInts true hI (Nat.le_refl _) hB

set_option maxHeartbeats 400000 in
theorem iStarsOf_no (p : Int) (w : World) (h : ¬ (3 ≤ p ∧ p ≤ 60)) :
    Calls Try.prog 52 #[.int .i64 p] w (Gives (IntsIn 3) w [] false) := by
  go_enter Try.func52, Try.ntmps52
  go_wp2_with (first | (go_at_call 84; (with_reducible refine (isPointCount_no _ _ h).mono ?_); rintro e w1 ⟨rfl, rfl⟩))
  go_ret2
  exact giveNoInts (Below.refl _ _)

set_option maxHeartbeats 400000 in
theorem sStarsOf_yes (p : Nat) (w : World) (h : 3 ≤ p ∧ p ≤ 60) :
    Calls Try.prog 53 #[.int .i64 p] w (Gives (IntsIn 3) w (upTo (p / 2)) true) := by
  obtain ⟨h1, h2⟩ := h
  go_enter Try.func53, Try.ntmps53
  go_wp2_with (first | (go_at_call 98; (with_reducible refine (srPoints_yes _ _ (by omega)).mono ?_); rintro e w1 ⟨rfl, rfl⟩))
  go_loopw [4, 5] (fun u v wr => ∃ m : Nat, m ≤ p / 2 ∧ v = .int .i64 ((m + 1 : Nat) : Int) ∧ Ints wr w.heap.size 3 u (upTo m) ∧ Below w.heap.size w wr) (fun _ v _ => p - (intOf v).toNat)
  case atStart => exact ⟨0, by omega, rfl, World.ownsRow_nil _ _ _ _, Below.refl _ _⟩
  case round =>
    obtain ⟨m, hm, rfl, hI, hB⟩ := hrel
    have HI := Lib.hid hI
    have hz := hB.size
    clear hI
    by_cases hlt : m < p / 2
    · have ht : 2 * ((m : Int) + 1) ≤ p := by omega
      go_wp2_with (at_builtin; refine wpList_append_int rfl _ _ 40 rfl (w.heap.size) 3 Try.underlying40 info_int _ _ rfl HI.out ((m : Int) + 1) rfl (by rw [upTo_length]; omega) (by omega) ?_; intro v' w' hI' hg';  have hB' := HI.out.below hB hz hg'; rw [upTo_succ] at hI'; have HI' := Lib.hid hI'; clear hI' hB)
      go_roundw
      case rel => exact ⟨m + 1, by omega, by go_num, HI'.out, hB'⟩
      case measure => simp [intOf]; omega
    · obtain rfl : m = p / 2 := by omega
      go_wp2
      go_ret2
      exact giveInts true HI.out (Nat.le_refl _) hB

set_option maxHeartbeats 400000 in
theorem sStarsOf_no (p : Int) (w : World) (h : ¬ (3 ≤ p ∧ p ≤ 60)) :
    Calls Try.prog 53 #[.int .i64 p] w (Gives (IntsIn 3) w [] false) := by
  go_enter Try.func53, Try.ntmps53
  go_wp2_with (first | (go_at_call 98; (with_reducible refine (srPoints_no _ _ h).mono ?_); rintro e w1 ⟨rfl, rfl⟩))
  go_ret2
  exact giveNoInts (Below.refl _ _)

end Go.Proofs.Ytlkehdjfmmghjab
