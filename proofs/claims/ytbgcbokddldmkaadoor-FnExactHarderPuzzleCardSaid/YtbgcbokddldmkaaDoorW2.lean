/- Contracts of the functions of stars: numbers, and the laws over them. -/
import Derived.Test.YtbgcbokddldmkaaDoorW1
namespace Go.Proofs.YtbgcbokddldmkaaDoor
open Go.RowKit

set_option maxHeartbeats 400000 in
theorem isPoint_yes (p k : Int) (w : World) (h : 0 ≤ k ∧ k < p) :
    Calls Tryd.prog 205 #[.int .i64 p, .int .i64 k] w fun e w' => e = .returned (.bool true) ∧ w = w' := by
  obtain ⟨h1, h2⟩ := h
  go_enter Tryd.func205, Tryd.ntmps205
  go_wp2
  go_ret
  exact ⟨rfl, rfl⟩

set_option maxHeartbeats 400000 in
theorem isPoint_no (p k : Int) (w : World) (h : ¬ (0 ≤ k ∧ k < p)) :
    Calls Tryd.prog 205 #[.int .i64 p, .int .i64 k] w fun e w' => e = .returned (.bool false) ∧ w = w' := by
  by_cases h1 : 0 ≤ k
  · have h2 : ¬ k < p := by omega
    clear h
    go_enter Tryd.func205, Tryd.ntmps205
    go_wp2
    go_ret
    exact ⟨rfl, rfl⟩
  · clear h
    go_enter Tryd.func205, Tryd.ntmps205
    go_wp2
    go_ret
    exact ⟨rfl, rfl⟩

set_option maxHeartbeats 400000 in
theorem commonDivisor_q (a b : Nat) (w : World) (ha : a ≤ 1000000000000000) (hb : b ≤ 1000000000000000) :
    Calls Tryd.prog 190 #[.int .i64 a, .int .i64 b] w fun e w' => e = .returned (.int .i64 (Nat.gcd a b : Nat)) ∧ ∃ q, w' = w.drewN q := by
  go_enter Tryd.func190, Tryd.ntmps190
  go_wp2
  go_loopw [0, 1] (fun u v wr => ∃ x y q : Nat, x ≤ 1000000000000000 ∧ y ≤ 1000000000000000 ∧ Nat.gcd x y = Nat.gcd a b ∧ u = .int .i64 x ∧ v = .int .i64 y ∧ wr = w.drewN q) (fun _ v _ => (intOf v).toNat)
  case atStart => exact ⟨a, b, 0, ha, hb, rfl, rfl, rfl, rfl⟩
  case round =>
    obtain ⟨x, y, q, hx, hy, hg, rfl, rfl, rfl⟩ := hrel
    have HG := Lib.hid hg
    clear hg
    by_cases hy0 : y = 0
    · subst hy0
      go_wp2
      go_ret
      exact ⟨by rw [← HG.out]; simp, q, rfl⟩
    · have h1 : 1 ≤ y := by omega
      go_wp2
      go_quiet (fail)
      go_wp2
      go_roundw
      case rel => exact ⟨y, x % y, q + nq, hy, by have := Nat.mod_lt x h1; omega, by rw [← HG.out, Nat.gcd_comm x y, Nat.gcd_rec y x, Nat.gcd_comm], by first | rfl | simp, by first | rfl | simp, by simp⟩
      case measure => simp [intOf]; have := Nat.mod_lt x h1; omega

theorem commonDivisor_any (a b : Nat) (w : World) (ha : a ≤ 1000000000000000) (hb : b ≤ 1000000000000000) :
    Calls Tryd.prog 190 #[.int .i64 a, .int .i64 b] w fun e w' => e = .returned (.int .i64 (Nat.gcd a b : Nat)) ∧ Below w.heap.size w w' :=
  (commonDivisor_q a b w ha hb).mono fun _ _ ⟨he, q, hq⟩ => ⟨he, by rw [hq]; exact bdn (Below.refl _ _) q⟩

set_option maxHeartbeats 400000 in
theorem srCommon_q (a b : Nat) (w : World) (ha : a ≤ 1000000000000000) (hb : b ≤ 1000000000000000) :
    Calls Tryd.prog 149 #[.int .i64 a, .int .i64 b] w fun e w' => e = .returned (.int .i64 (Nat.gcd a b : Nat)) ∧ ∃ q, w' = w.drewN q := by
  go_enter Tryd.func149, Tryd.ntmps149
  go_wp2
  go_loopw [0, 1] (fun u v wr => ∃ x y q : Nat, x ≤ 1000000000000000 ∧ y ≤ 1000000000000000 ∧ Nat.gcd x y = Nat.gcd a b ∧ u = .int .i64 x ∧ v = .int .i64 y ∧ wr = w.drewN q) (fun _ v _ => (intOf v).toNat)
  case atStart => exact ⟨a, b, 0, ha, hb, rfl, rfl, rfl, rfl⟩
  case round =>
    obtain ⟨x, y, q, hx, hy, hg, rfl, rfl, rfl⟩ := hrel
    have HG := Lib.hid hg
    clear hg
    by_cases hy0 : y = 0
    · subst hy0
      go_wp2
      go_ret
      exact ⟨by rw [← HG.out]; simp, q, rfl⟩
    · have h1 : 1 ≤ y := by omega
      go_wp2
      go_quiet (fail)
      go_wp2
      go_roundw
      case rel => exact ⟨y, x % y, q + nq, hy, by have := Nat.mod_lt x h1; omega, by rw [← HG.out, Nat.gcd_comm x y, Nat.gcd_rec y x, Nat.gcd_comm], by first | rfl | simp, by first | rfl | simp, by simp⟩
      case measure => simp [intOf]; have := Nat.mod_lt x h1; omega

theorem srCommon_any (a b : Nat) (w : World) (ha : a ≤ 1000000000000000) (hb : b ≤ 1000000000000000) :
    Calls Tryd.prog 149 #[.int .i64 a, .int .i64 b] w fun e w' => e = .returned (.int .i64 (Nat.gcd a b : Nat)) ∧ Below w.heap.size w w' :=
  (srCommon_q a b w ha hb).mono fun _ _ ⟨he, q, hq⟩ => ⟨he, by rw [hq]; exact bdn (Below.refl _ _) q⟩

set_option maxHeartbeats 400000 in
theorem pointAfter_yes (p s k n : Int) (w : World) (h : 3 ≤ p ∧ p ≤ 60 ∧ 1 ≤ s ∧ s < p) (hk : 0 ≤ k ∧ k < p) (hn : 0 ≤ n ∧ n ≤ 1000000) :
    Calls Tryd.prog 192 #[.agg #[.int .i64 p, .int .i64 s], .int .i64 k, .int .i64 n] w fun e w' => e = .returned (.tuple #[.int .i64 ((k + n * s) % p), .bool true]) ∧ Below w.heap.size w w' := by
  have hp : 3 ≤ p := h.1
  have hp' : p ≤ 60 := h.2.1
  have hs0 : 1 ≤ s := h.2.2.1
  have hs1 : s < p := h.2.2.2
  obtain ⟨hn1, hn2⟩ := hn
  have hm1 : 0 ≤ n * s := Int.mul_nonneg hn1 (by omega)
  have hm2 : n * s ≤ 1000000 * 60 := Int.mul_le_mul hn2 (by omega) (by omega) (by omega)
  obtain ⟨hk1, hk2⟩ := hk
  go_enter Tryd.func192, Tryd.ntmps192
  go_wp2_with (first | (go_at_call 82; (with_reducible refine (isStar_yes _ _ _ h).mono ?_); rintro e w1 ⟨rfl, hb⟩; obtain ⟨hc, hf⟩ := bcell hb; (have hz : w.heap.size < w1.heap.size := by (have := hb.size; (try simp at this); omega)); (have hB : Below w.heap.size w w1 := by (refine Below.trans ?_ (hb.mono (by first | (simp; done) | omega | (simp; omega))); go_grown))) | (go_at_call 205; (with_reducible refine (isPoint_yes _ _ _ (by omega)).mono ?_); rintro e w1 ⟨rfl, rfl⟩))
  go_ret2
  exact ⟨rfl, hB⟩

set_option maxHeartbeats 400000 in
theorem pointAfter_no (p s k n : Int) (w : World) (h : ¬ ((3 ≤ p ∧ p ≤ 60 ∧ 1 ≤ s ∧ s < p) ∧ (0 ≤ k ∧ k < p) ∧ (0 ≤ n ∧ n ≤ 1000000))) :
    Calls Tryd.prog 192 #[.agg #[.int .i64 p, .int .i64 s], .int .i64 k, .int .i64 n] w fun e w' => e = .returned (.tuple #[.int .i64 0, .bool false]) ∧ Below w.heap.size w w' := by
  by_cases h1 : 3 ≤ p ∧ p ≤ 60 ∧ 1 ≤ s ∧ s < p
  · by_cases h2 : 0 ≤ k ∧ k < p
    · by_cases h3 : 0 ≤ n
      · have h4 : ¬ n ≤ 1000000 := by omega
        clear h
        go_enter Tryd.func192, Tryd.ntmps192
        go_wp2_with (first | (go_at_call 82; (with_reducible refine (isStar_yes _ _ _ h1).mono ?_); rintro e w1 ⟨rfl, hb⟩; obtain ⟨hc, hf⟩ := bcell hb; (have hz : w.heap.size < w1.heap.size := by (have := hb.size; (try simp at this); omega)); (have hB : Below w.heap.size w w1 := by (refine Below.trans ?_ (hb.mono (by first | (simp; done) | omega | (simp; omega))); go_grown))) | (go_at_call 205; (with_reducible refine (isPoint_yes _ _ _ h2).mono ?_); rintro e w1 ⟨rfl, rfl⟩))
        go_ret2
        exact ⟨rfl, hB⟩
      · clear h
        go_enter Tryd.func192, Tryd.ntmps192
        go_wp2_with (first | (go_at_call 82; (with_reducible refine (isStar_yes _ _ _ h1).mono ?_); rintro e w1 ⟨rfl, hb⟩; obtain ⟨hc, hf⟩ := bcell hb; (have hz : w.heap.size < w1.heap.size := by (have := hb.size; (try simp at this); omega)); (have hB : Below w.heap.size w w1 := by (refine Below.trans ?_ (hb.mono (by first | (simp; done) | omega | (simp; omega))); go_grown))) | (go_at_call 205; (with_reducible refine (isPoint_yes _ _ _ h2).mono ?_); rintro e w1 ⟨rfl, rfl⟩))
        go_ret2
        exact ⟨rfl, hB⟩
    · clear h
      go_enter Tryd.func192, Tryd.ntmps192
      go_wp2_with (first | (go_at_call 82; (with_reducible refine (isStar_yes _ _ _ h1).mono ?_); rintro e w1 ⟨rfl, hb⟩; obtain ⟨hc, hf⟩ := bcell hb; (have hz : w.heap.size < w1.heap.size := by (have := hb.size; (try simp at this); omega)); (have hB : Below w.heap.size w w1 := by (refine Below.trans ?_ (hb.mono (by first | (simp; done) | omega | (simp; omega))); go_grown))) | (go_at_call 205; (with_reducible refine (isPoint_no _ _ _ h2).mono ?_); rintro e w1 ⟨rfl, rfl⟩))
      go_ret2
      exact ⟨rfl, hB⟩
  · clear h
    go_enter Tryd.func192, Tryd.ntmps192
    go_wp2_with (first | (go_at_call 82; (with_reducible refine (isStar_no _ _ _ h1).mono ?_); rintro e w1 ⟨rfl, hb⟩; obtain ⟨hc, hf⟩ := bcell hb; (have hz : w.heap.size < w1.heap.size := by (have := hb.size; (try simp at this); omega)); (have hB : Below w.heap.size w w1 := by (refine Below.trans ?_ (hb.mono (by first | (simp; done) | omega | (simp; omega))); go_grown))))
    go_ret2
    exact ⟨rfl, hB⟩

end Go.Proofs.YtbgcbokddldmkaaDoor
