/- How many plane pairings there are. -/
import Derived.Test.YtmfbbbnenngehaaW1
import Derived.Test.YtmfbbbnenngehaaV0
import Derived.Test.YtmfbbbnenngehaaM2
namespace Go.Proofs.Ytmfbbbnenngehaa
open Go.RowKit

set_option maxHeartbeats 400000 in
theorem countPlane_any (n : Nat) (w : World) (h : n ≤ 18) :
    Calls Try.prog 79 #[.int .i64 n] w fun e w' => e = .returned (.int .i64 (cat n : Nat)) ∧ w = w' := by
  go_enter Try.func79, Try.ntmps79
  go_wp2
  go_loop [3, 6] (fun c i => ∃ k : Nat, k ≤ n ∧ i = .int .i64 k ∧ c = .int .i64 (cat k : Nat)) (fun _ i => n - (intOf i).toNat)
  case atStart => exact ⟨0, by omega, rfl, rfl⟩
  case round =>
    obtain ⟨k, hk, rfl, rfl⟩ := hrel
    by_cases hlt : k < n
    · have hs := cat_step k (by omega)
      have hc := cat_le18 k (by omega)
      have hc1 := cat_le18 (k + 1) (by omega)
      have HC1 := Lib.hid (rfl : cat (k + 1) = cat (k + 1))
      obtain ⟨c, hcc⟩ : ∃ c, c = cat k := ⟨_, rfl⟩
      obtain ⟨c1, hcc1⟩ : ∃ c, c = cat (k + 1) := ⟨_, rfl⟩
      have HE := Lib.hid hcc1
      rw [← hcc, ← hcc1] at hs
      rw [← hcc] at hc ⊢
      rw [← hcc1] at hc1
      have hb : c * (4 * k + 2) ≤ 477638700 * 74 := Nat.mul_le_mul hc.2 (by omega)
      obtain ⟨M, hM⟩ : ∃ M, M = c * (4 * k + 2) := ⟨_, rfl⟩
      rw [← hM] at hs hb
      have hm : IntKind.i64.wrap ((c : Int) * (4 * (k : Int) + 2)) = (M : Int) := by
        have h1 : (c : Int) * (4 * (k : Int) + 2) = (M : Int) := by rw [hM]; push_cast; rfl
        rw [h1, IntKind.wrap_i64]
        omega
      have hq : (M : Int) / ((k : Int) + 2) = (c1 : Int) := by rw [← hs]; norm_cast
      clear hcc hcc1 hM hs HC1
      go_wp2
      go_round
      case rel => exact ⟨k + 1, by omega, by go_num, by rw [← HE.out]⟩
      case measure => simp [intOf]; omega
    · obtain rfl : k = n := by omega
      go_wp2
      go_ret
      exact ⟨rfl, rfl⟩

end Go.Proofs.Ytmfbbbnenngehaa
