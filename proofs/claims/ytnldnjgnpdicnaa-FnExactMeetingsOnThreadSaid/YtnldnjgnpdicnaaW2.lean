/- Contracts of the functions of stars: numbers, and the laws over them. -/
import Derived.Test.YtnldnjgnpdicnaaW1
namespace Go.Proofs.Ytnldnjgnpdicnaa
open Go.RowKit

set_option maxHeartbeats 400000 in
theorem isPoint_yes (p k : Int) (w : World) (h : 0 ≤ k ∧ k < p) :
    Calls Try.prog 89 #[.int .i64 p, .int .i64 k] w fun e w' => e = .returned (.bool true) ∧ w = w' := by
  obtain ⟨h1, h2⟩ := h
  go_enter Try.func89, Try.ntmps89
  go_wp2
  go_ret
  exact ⟨rfl, rfl⟩

set_option maxHeartbeats 400000 in
theorem isPoint_no (p k : Int) (w : World) (h : ¬ (0 ≤ k ∧ k < p)) :
    Calls Try.prog 89 #[.int .i64 p, .int .i64 k] w fun e w' => e = .returned (.bool false) ∧ w = w' := by
  by_cases h1 : 0 ≤ k
  · have h2 : ¬ k < p := by omega
    clear h
    go_enter Try.func89, Try.ntmps89
    go_wp2
    go_ret
    exact ⟨rfl, rfl⟩
  · clear h
    go_enter Try.func89, Try.ntmps89
    go_wp2
    go_ret
    exact ⟨rfl, rfl⟩

set_option maxHeartbeats 400000 in
theorem srAsked_yes (p s k : Int) (w : World) (h : 3 ≤ p ∧ p ≤ 60 ∧ 1 ≤ s ∧ s < p) (hk : 0 ≤ k ∧ k < p) :
    Calls Try.prog 92 #[.agg #[.int .i64 p, .int .i64 s], .int .i64 k] w fun e w' => e = .returned (.bool true) ∧ Below w.heap.size w w' := by
  have hp : 3 ≤ p := h.1
  have hp' : p ≤ 60 := h.2.1
  go_enter Try.func92, Try.ntmps92
  go_wp2_with (first | (go_at_call 73; (with_reducible refine (srGood_yes _ _ _ h).mono ?_); rintro e w1 ⟨rfl, hb⟩; obtain ⟨hc, hf⟩ := bcell hb; (have hz : w.heap.size < w1.heap.size := by (have := hb.size; (try simp at this); omega)); (have hB : Below w.heap.size w w1 := by (refine Below.trans ?_ (hb.mono (by first | (simp; done) | omega | (simp; omega))); go_grown))) | (go_at_call 50; (with_reducible refine (l1In_yes _ _ _ _ (by omega)).mono ?_); rintro e w1 ⟨rfl, rfl⟩))
  go_ret
  exact ⟨rfl, hB⟩

set_option maxHeartbeats 400000 in
theorem srAsked_no (p s k : Int) (w : World) (h : ¬ ((3 ≤ p ∧ p ≤ 60 ∧ 1 ≤ s ∧ s < p) ∧ (0 ≤ k ∧ k < p))) :
    Calls Try.prog 92 #[.agg #[.int .i64 p, .int .i64 s], .int .i64 k] w fun e w' => e = .returned (.bool false) ∧ Below w.heap.size w w' := by
  by_cases h1 : 3 ≤ p ∧ p ≤ 60 ∧ 1 ≤ s ∧ s < p
  · have hk : ¬ (0 ≤ k ∧ k ≤ p - 1) := by omega
    have hp : 3 ≤ p := h1.1
    have hp' : p ≤ 60 := h1.2.1
    clear h
    go_enter Try.func92, Try.ntmps92
    go_wp2_with (first | (go_at_call 73; (with_reducible refine (srGood_yes _ _ _ h1).mono ?_); rintro e w1 ⟨rfl, hb⟩; obtain ⟨hc, hf⟩ := bcell hb; (have hz : w.heap.size < w1.heap.size := by (have := hb.size; (try simp at this); omega)); (have hB : Below w.heap.size w w1 := by (refine Below.trans ?_ (hb.mono (by first | (simp; done) | omega | (simp; omega))); go_grown))) | (go_at_call 50; (with_reducible refine (l1In_no _ _ _ _ hk).mono ?_); rintro e w1 ⟨rfl, rfl⟩))
    go_ret
    exact ⟨rfl, hB⟩
  · clear h
    go_enter Try.func92, Try.ntmps92
    go_wp2_with (first | (go_at_call 73; (with_reducible refine (srGood_no _ _ _ h1).mono ?_); rintro e w1 ⟨rfl, hb⟩; obtain ⟨hc, hf⟩ := bcell hb; (have hz : w.heap.size < w1.heap.size := by (have := hb.size; (try simp at this); omega)); (have hB : Below w.heap.size w w1 := by (refine Below.trans ?_ (hb.mono (by first | (simp; done) | omega | (simp; omega))); go_grown))))
    go_ret
    exact ⟨rfl, hB⟩

set_option maxHeartbeats 400000 in
theorem commonDivisor_q (a b : Nat) (w : World) (ha : a ≤ 1000000000000000) (hb : b ≤ 1000000000000000) :
    Calls Try.prog 95 #[.int .i64 a, .int .i64 b] w fun e w' => e = .returned (.int .i64 (Nat.gcd a b : Nat)) ∧ ∃ q, w' = w.drewN q := by
  go_enter Try.func95, Try.ntmps95
  go_wp2
  go_loopw [0, 1] (fun u v wr => ∃ x y q : Nat, x ≤ 1000000000000000 ∧ y ≤ 1000000000000000 ∧ Nat.gcd x y = Nat.gcd a b ∧ u = .int .i64 x ∧ v = .int .i64 y ∧ wr = w.drewN q) (fun _ v _ => (intOf v).toNat)
  case atStart => exact ⟨a, b, 0, ha, hb, rfl, rfl, rfl, rfl⟩
  case round =>
    obtain ⟨x, y, q, hx, hy, hg, rfl, rfl, rfl⟩ := hrel
    have HG := Lib.hid hg
    clear hg
    by_cases hy0 : y = 0
    · subst hy0
      go_wp2
      go_ret
      exact ⟨by rw [← HG.out]; simp, q, rfl⟩
    · have h1 : 1 ≤ y := by omega
      go_wp2
      go_quiet (fail)
      go_wp2
      go_roundw
      case rel => exact ⟨y, x % y, q + nq, hy, by have := Nat.mod_lt x h1; omega, by rw [← HG.out, Nat.gcd_comm x y, Nat.gcd_rec y x, Nat.gcd_comm], by first | rfl | simp, by first | rfl | simp, by simp⟩
      case measure => simp [intOf]; have := Nat.mod_lt x h1; omega

theorem commonDivisor_any (a b : Nat) (w : World) (ha : a ≤ 1000000000000000) (hb : b ≤ 1000000000000000) :
    Calls Try.prog 95 #[.int .i64 a, .int .i64 b] w fun e w' => e = .returned (.int .i64 (Nat.gcd a b : Nat)) ∧ Below w.heap.size w w' :=
  (commonDivisor_q a b w ha hb).mono fun _ _ ⟨he, q, hq⟩ => ⟨he, by rw [hq]; exact bdn (Below.refl _ _) q⟩

set_option maxHeartbeats 400000 in
theorem srCommon_q (a b : Nat) (w : World) (ha : a ≤ 1000000000000000) (hb : b ≤ 1000000000000000) :
    Calls Try.prog 96 #[.int .i64 a, .int .i64 b] w fun e w' => e = .returned (.int .i64 (Nat.gcd a b : Nat)) ∧ ∃ q, w' = w.drewN q := by
  go_enter Try.func96, Try.ntmps96
  go_wp2
  go_loopw [0, 1] (fun u v wr => ∃ x y q : Nat, x ≤ 1000000000000000 ∧ y ≤ 1000000000000000 ∧ Nat.gcd x y = Nat.gcd a b ∧ u = .int .i64 x ∧ v = .int .i64 y ∧ wr = w.drewN q) (fun _ v _ => (intOf v).toNat)
  case atStart => exact ⟨a, b, 0, ha, hb, rfl, rfl, rfl, rfl⟩
  case round =>
    obtain ⟨x, y, q, hx, hy, hg, rfl, rfl, rfl⟩ := hrel
    have HG := Lib.hid hg
    clear hg
    by_cases hy0 : y = 0
    · subst hy0
      go_wp2
      go_ret
      exact ⟨by rw [← HG.out]; simp, q, rfl⟩
    · have h1 : 1 ≤ y := by omega
      go_wp2
      go_quiet (fail)
      go_wp2
      go_roundw
      case rel => exact ⟨y, x % y, q + nq, hy, by have := Nat.mod_lt x h1; omega, by rw [← HG.out, Nat.gcd_comm x y, Nat.gcd_rec y x, Nat.gcd_comm], by first | rfl | simp, by first | rfl | simp, by simp⟩
      case measure => simp [intOf]; have := Nat.mod_lt x h1; omega

theorem srCommon_any (a b : Nat) (w : World) (ha : a ≤ 1000000000000000) (hb : b ≤ 1000000000000000) :
    Calls Try.prog 96 #[.int .i64 a, .int .i64 b] w fun e w' => e = .returned (.int .i64 (Nat.gcd a b : Nat)) ∧ Below w.heap.size w w' :=
  (srCommon_q a b w ha hb).mono fun _ _ ⟨he, q, hq⟩ => ⟨he, by rw [hq]; exact bdn (Below.refl _ _) q⟩

end Go.Proofs.Ytnldnjgnpdicnaa
