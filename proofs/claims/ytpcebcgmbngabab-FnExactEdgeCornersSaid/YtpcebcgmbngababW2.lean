/- Contracts of the functions of stars: numbers, and the laws over them. -/
import Derived.Test.YtpcebcgmbngababW1
namespace Go.Proofs.Ytpcebcgmbngabab
open Go.RowKit

set_option maxHeartbeats 400000 in
theorem commonDivisor_q (a b : Nat) (w : World) (ha : a ≤ 1000000000000000) (hb : b ≤ 1000000000000000) :
    Calls Try.prog 116 #[.int .i64 a, .int .i64 b] w fun e w' => e = .returned (.int .i64 (Nat.gcd a b : Nat)) ∧ ∃ q, w' = w.drewN q := by
  go_enter Try.func116, Try.ntmps116
  go_wp2
  go_loopw [0, 1] (fun u v wr => ∃ x y q : Nat, x ≤ 1000000000000000 ∧ y ≤ 1000000000000000 ∧ Nat.gcd x y = Nat.gcd a b ∧ u = .int .i64 x ∧ v = .int .i64 y ∧ wr = w.drewN q) (fun _ v _ => (intOf v).toNat)
  case atStart => exact ⟨a, b, 0, ha, hb, rfl, rfl, rfl, rfl⟩
  case round =>
    obtain ⟨x, y, q, hx, hy, hg, rfl, rfl, rfl⟩ := hrel
    have HG := Lib.hid hg
    clear hg
    by_cases hy0 : y = 0
    · subst hy0
      go_wp2
      go_ret
      exact ⟨by rw [← HG.out]; simp, q, rfl⟩
    · have h1 : 1 ≤ y := by omega
      go_wp2
      go_quiet (fail)
      go_wp2
      go_roundw
      case rel => exact ⟨y, x % y, q + nq, hy, by have := Nat.mod_lt x h1; omega, by rw [← HG.out, Nat.gcd_comm x y, Nat.gcd_rec y x, Nat.gcd_comm], by first | rfl | simp, by first | rfl | simp, by simp⟩
      case measure => simp [intOf]; have := Nat.mod_lt x h1; omega

theorem commonDivisor_any (a b : Nat) (w : World) (ha : a ≤ 1000000000000000) (hb : b ≤ 1000000000000000) :
    Calls Try.prog 116 #[.int .i64 a, .int .i64 b] w fun e w' => e = .returned (.int .i64 (Nat.gcd a b : Nat)) ∧ Below w.heap.size w w' :=
  (commonDivisor_q a b w ha hb).mono fun _ _ ⟨he, q, hq⟩ => ⟨he, by rw [hq]; exact bdn (Below.refl _ _) q⟩

set_option maxHeartbeats 400000 in
theorem srCommon_q (a b : Nat) (w : World) (ha : a ≤ 1000000000000000) (hb : b ≤ 1000000000000000) :
    Calls Try.prog 126 #[.int .i64 a, .int .i64 b] w fun e w' => e = .returned (.int .i64 (Nat.gcd a b : Nat)) ∧ ∃ q, w' = w.drewN q := by
  go_enter Try.func126, Try.ntmps126
  go_wp2
  go_loopw [0, 1] (fun u v wr => ∃ x y q : Nat, x ≤ 1000000000000000 ∧ y ≤ 1000000000000000 ∧ Nat.gcd x y = Nat.gcd a b ∧ u = .int .i64 x ∧ v = .int .i64 y ∧ wr = w.drewN q) (fun _ v _ => (intOf v).toNat)
  case atStart => exact ⟨a, b, 0, ha, hb, rfl, rfl, rfl, rfl⟩
  case round =>
    obtain ⟨x, y, q, hx, hy, hg, rfl, rfl, rfl⟩ := hrel
    have HG := Lib.hid hg
    clear hg
    by_cases hy0 : y = 0
    · subst hy0
      go_wp2
      go_ret
      exact ⟨by rw [← HG.out]; simp, q, rfl⟩
    · have h1 : 1 ≤ y := by omega
      go_wp2
      go_quiet (fail)
      go_wp2
      go_roundw
      case rel => exact ⟨y, x % y, q + nq, hy, by have := Nat.mod_lt x h1; omega, by rw [← HG.out, Nat.gcd_comm x y, Nat.gcd_rec y x, Nat.gcd_comm], by first | rfl | simp, by first | rfl | simp, by simp⟩
      case measure => simp [intOf]; have := Nat.mod_lt x h1; omega

theorem srCommon_any (a b : Nat) (w : World) (ha : a ≤ 1000000000000000) (hb : b ≤ 1000000000000000) :
    Calls Try.prog 126 #[.int .i64 a, .int .i64 b] w fun e w' => e = .returned (.int .i64 (Nat.gcd a b : Nat)) ∧ Below w.heap.size w w' :=
  (srCommon_q a b w ha hb).mono fun _ _ ⟨he, q, hq⟩ => ⟨he, by rw [hq]; exact bdn (Below.refl _ _) q⟩

end Go.Proofs.Ytpcebcgmbngabab
