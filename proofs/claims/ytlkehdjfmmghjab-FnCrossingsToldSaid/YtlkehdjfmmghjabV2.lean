/- The strings of a star, as lists. -/
import Derived.Test.YtlkehdjfmmghjabW2
import Derived.Test.YtlkehdjfmmghjabV1
import Derived.Test.YtlkehdjfmmghjabM1
import Derived.Test.YtlkehdjfmmghjabB2
import Derived.Deep.RegionHeld3
namespace Go.Proofs.Ytlkehdjfmmghjab
open Go.RowKit

theorem info_int : (Try.prog.info? 3).map (fun i => (i.zero, i.size, i.bytes)) = some (some (.int .i64 0), 1, 8) := by kernel_rfl

/-- A call returns the integers xs in a slice of its own. -/
def GivesInts (w : World) (xs : List Int) (e : Ending) (w' : World) : Prop := ∃ v, e = .returned v ∧ Ints w' w.heap.size 3 v xs ∧ Below w.heap.size w w'

set_option maxHeartbeats 400000 in
theorem stringFrom_any (p s k : Nat) (w : World) (h : 3 ≤ p ∧ p ≤ 60 ∧ 1 ≤ s ∧ s < p) (hk : k < p) :
    Calls Try.prog 87 #[.agg #[.int .i64 p, .int .i64 s], .int .i64 k] w (GivesInts w (strL p s k (p / Nat.gcd p s))) := by
  have hg1 : 1 ≤ Nat.gcd p s := Nat.gcd_pos_of_pos_left s (by omega)
  have hg3 : (1 : Int) ≤ ((Nat.gcd p s : Nat) : Int) := by omega
  obtain ⟨n, hn⟩ : ∃ n, n = p / Nat.gcd p s := ⟨_, rfl⟩
  have hq : (p : Int) / ((Nat.gcd p s : Nat) : Int) = (n : Int) := by rw [hn]; simp
  have hn2 : n ≤ 60 := by rw [hn]; exact Nat.le_trans (Nat.div_le_self _ _) h.2.1
  rw [← hn]
  have hmk := make_ints (P := Try.prog) Try.underlying40 info_int n (by omega)
  clear hn
  have hb0 : (((Nat.gcd p s : Nat) : Int) == 0) = false := beq_eq_false_iff_ne.2 (by omega)
  have hw : IntKind.i64.wrap (n : Int) = (n : Int) := IntWalk.i64_in _ (by omega)
  have hq' : Int.tdiv (p : Int) ((Nat.gcd p s : Nat) : Int) = (n : Int) := by rw [Int.tdiv_eq_ediv_of_nonneg (by omega)]; exact hq
  have hp0 : ¬ p = 0 := by omega
  obtain ⟨h1, h2, h3, h4⟩ := h
  go_enter Try.func87, Try.ntmps87
  go_wp2
  go_region_held3 (fun w' => w'.cell? ⟨w.heap.size, 0, none⟩ = some (.int .i64 p) ∧ w'.cell? ⟨w.heap.size, 1, none⟩ = some (.int .i64 s)) (go_keep)
    (first | (go_at_call 88; refine (commonDivisor_q p s _ (by omega) (by omega)).mono ?_; rintro e w1 ⟨rfl, q, rfl⟩))
  clear hmk hq hg1 hg3 hb0 hw hq'
  go_wp2
  have hI0 := Ints.made ((w.alloc (.cells #[.int .i64 p, .int .i64 s] 23)).drewN (1 + q)) w.heap.size 3 n (by simp) (by omega)
  have hB0 : Below w.heap.size w (((w.alloc (.cells #[.int .i64 p, .int .i64 s] 23)).drewN (1 + q)).alloc (.cells (zeroInts n) 3)) := (bdn ((Below.refl _ _).alloc (Nat.le_refl _) _) _).alloc (by simp) _
  simp only [World.heap_drewN, World.size_alloc] at hI0
  have HI0 := Lib.hid hI0
  have HB0 := Lib.hid hB0
  have HL := Lib.hid (fillTo_zero (atI p s k) n)
  clear hI0 hB0
  go_loopw [18] (fun i wr => ∃ j : Nat, j ≤ n ∧ i = .int .i64 j ∧ Ints wr w.heap.size 3 (.slice (some ⟨w.heap.size + 1, 0, none⟩) n n) (fillTo (atI p s k) n j) ∧ Below w.heap.size w wr ∧ wr.cell? ⟨w.heap.size, 0, none⟩ = some (.int .i64 p) ∧ wr.cell? ⟨w.heap.size, 1, none⟩ = some (.int .i64 s)) (fun i _ => n - (intOf i).toNat)
  case atStart => exact ⟨0, by omega, rfl, by rw [HL.out]; exact HI0.out, HB0.out, by go_simp, by go_simp⟩
  case round =>
    obtain ⟨j, hj, rfl, hI, hB, hp, hs⟩ := hrel
    by_cases hlt : j < n
    · have hst := hI.stored j (atI p s k j)
      rw [fillTo_set (atI p s k) n j hlt] at hst
      have cc := hI.cellAt j (by rw [fillTo_length _ n j hj]; exact hlt)
      have ff := hI.frozenAt j
      have HS := Lib.hid hst
      clear hst hI
      have m1 : 0 ≤ (j : Int) * (s : Int) := Int.mul_nonneg (by omega) (by omega)
      have m2 : (j : Int) * (s : Int) ≤ 60 * 60 := Int.mul_le_mul (by omega) (by omega) (by omega) (by omega)
      go_wp2
      go_roundw
      case rel => exact ⟨j + 1, by omega, by go_num, HS.out.1, hB.setCell (by simp) _, by go_simp, by go_simp⟩
      case measure => simp [intOf]; omega
    · obtain rfl : j = n := by omega
      rw [fillTo_all] at hI
      go_wp2
      go_ret
      exact ⟨_, rfl, hI, hB⟩

end Go.Proofs.Ytlkehdjfmmghjab
