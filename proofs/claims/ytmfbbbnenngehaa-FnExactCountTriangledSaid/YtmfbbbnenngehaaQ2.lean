/- The model's table of plane pairings; CountPlanePairings. -/
import Derived.Test.YtmfbbbnenngehaaQ1
namespace Go.Proofs.Ytmfbbbnenngehaa
open Go.RowKit

set_option maxHeartbeats 1000000 in
theorem cdPlane_any (p : Nat) (w : World) (hp : (2 ≤ p ∧ p ≤ 36) ∧ p % 2 = 0) :
    Calls Try.prog 78 #[.int .i64 p] w fun e w' => ∃ g cap, e = .returned (.slice (some ⟨g, 0, none⟩) (p + 1) cap) ∧ IntsIn 3 w' w.heap.size w'.heap.size (.slice (some ⟨g, 0, none⟩) (p + 1) cap) (waysL p (p / 2 + 1) 0) ∧ Below w.heap.size w w' := by
  obtain ⟨⟨hp4, hp30⟩, hpe⟩ := hp
  have hmk := make_ints (P := Try.prog) Try.underlying50 info_int (p + 1) (by omega)
  rw [show ((p + 1 : Nat) : Int) = (p : Int) + 1 by omega] at hmk
  have I0 := Ints.made w w.heap.size 3 (p + 1) (Nat.le_refl _) (by omega)
  have S0 := I0.stored 0 1
  rw [← waysL_first] at S0
  have c0 := I0.cellAt 0 (by simp)
  have f0 := I0.frozenAt 0
  rw [World.setCell_alloc_at (hn := rfl)] at S0
  have HS0 := Lib.hid S0
  clear I0 S0
  go_enter Try.func78, Try.ntmps78
  go_wp2
  go_loopw [4] (fun n wr => ∃ m nn : Nat, 1 ≤ m ∧ m ≤ p / 2 + 1 ∧ nn = 2 * m ∧ n = .int .i64 nn ∧ Ints wr w.heap.size 3 (.slice (some ⟨w.heap.size, 0, none⟩) (p + 1) (p + 1)) (waysL p m 0) ∧ Below w.heap.size w wr ∧ w.heap.size < wr.heap.size) (fun n _ => p + 2 - (intOf n).toNat)
  case atStart => exact ⟨1, 2, by omega, by omega, by omega, rfl, HS0.out.1, by go_grown, by simp⟩
  case round =>
    obtain ⟨wo, rfl⟩ : ∃ z, z = wr := ⟨wr, rfl⟩
    obtain ⟨m, nn, hm1, hm2, hnn, rfl, hI, hB, hz⟩ := hrel
    have HI := Lib.hid hI
    have HNN := Lib.hid hnn
    clear hI hmk c0 f0 HS0
    by_cases hlt : m ≤ p / 2
    · have hnp : nn ≤ p := by omega
      clear hnn
      go_wp2
      go_loopw [5] (fun k wr => ∃ i kk : Nat, i ≤ m ∧ kk = 2 * i + 1 ∧ k = .int .i64 kk ∧ Ints wr w.heap.size 3 (.slice (some ⟨w.heap.size, 0, none⟩) (p + 1) (p + 1)) (waysL p m i) ∧ Below w.heap.size w wr ∧ w.heap.size < wr.heap.size) (fun k _ => nn + 1 - (intOf k).toNat)
      case atStart => exact ⟨0, 1, by omega, by omega, rfl, HI.out, hB, hz⟩
      case round =>
        obtain ⟨i, kk, hi, hkk, rfl, hIi, hBi, hzi⟩ := hrel
        have hnn := HNN.out
        by_cases hil : i < m
        · obtain ⟨q1, hq1⟩ : ∃ q, q = 2 * i := ⟨_, rfl⟩
          obtain ⟨q2, hq2⟩ : ∃ q, q = 2 * (m - 1 - i) := ⟨_, rfl⟩
          obtain ⟨q3, hq3⟩ : ∃ q, q = nn - 1 := ⟨_, rfl⟩
          have e1 : IntKind.i64.wrap ((kk : Int) - 1) = (q1 : Int) := by rw [IntKind.wrap_i64]; omega
          have e3 : IntKind.i64.wrap ((nn : Int) - 1) = (q3 : Int) := by rw [IntKind.wrap_i64]; omega
          have e2 : IntKind.i64.wrap ((q3 : Int) - (kk : Int)) = (q2 : Int) := by rw [IntKind.wrap_i64]; omega
          have hl := waysL_length p m i
          have x0 := hIi.cellAt nn (by omega)
          have x1 := hIi.cellAt q1 (by omega)
          have x2 := hIi.cellAt q2 (by omega)
          have fr := hIi.frozenAt nn
          rw [waysL_get _ _ _ _ (by omega), if_pos (by omega), if_neg (by omega), if_pos (by omega)] at x0
          rw [waysL_get _ _ _ _ (by omega), if_pos (by omega), if_pos (by omega), show q1 / 2 = i by omega] at x1
          rw [waysL_get _ _ _ _ (by omega), if_pos (by omega), if_pos (by omega), show q2 / 2 = m - 1 - i by omega] at x2
          have b0 := catSum_le18 m i (by omega) (by omega) hi
          have b1 := cat_le18 i (by omega)
          have b2 := cat_le18 (m - 1 - i) (by omega)
          have b3 := catSum_le18 m (i + 1) (by omega) (by omega) hil
          have hst := hIi.stored nn ((catSum m (i + 1) : Nat) : Int)
          rw [hnn, waysL_set _ _ _ (by omega), ← hnn] at hst
          have HST := Lib.hid hst
          have hsum : catSum m (i + 1) = catSum m i + cat i * cat (m - 1 - i) := rfl
          obtain ⟨cs, hcs⟩ : ∃ c, c = catSum m i := ⟨_, rfl⟩
          obtain ⟨cn, hcn⟩ : ∃ c, c = catSum m (i + 1) := ⟨_, rfl⟩
          obtain ⟨ca, hca⟩ : ∃ c, c = cat i := ⟨_, rfl⟩
          obtain ⟨cb, hcb⟩ : ∃ c, c = cat (m - 1 - i) := ⟨_, rfl⟩
          rw [← hcs, ← hcn, ← hca, ← hcb] at hsum
          rw [← hcs] at x0 b0
          rw [← hca] at x1 b1
          rw [← hcb] at x2 b2
          rw [← hcn] at b3 HST
          obtain ⟨cp, hcp⟩ : ∃ c, c = ca * cb := ⟨_, rfl⟩
          rw [← hcp] at hsum
          have hmul : IntKind.i64.wrap ((ca : Int) * (cb : Int)) = (cp : Int) := by
            have h1 : (ca : Int) * (cb : Int) = (cp : Int) := by rw [hcp]; push_cast; rfl
            rw [h1, IntKind.wrap_i64]
            omega
          have hadd : IntKind.i64.wrap ((cs : Int) + (cp : Int)) = (cn : Int) := by rw [IntKind.wrap_i64]; omega
          have HB3 := Lib.hid (hIi.below hBi (by omega) HST.out.2)
          have HKK := Lib.hid hkk
          have k1 : (kk : Int) < (nn : Int) := by omega
          have k2 : (nn : Int) ≤ 36 := by omega
          have k3 : (q1 : Int) < (p : Int) + 1 := by omega
          have k4 : (q2 : Int) < (p : Int) + 1 := by omega
          have k5 : (nn : Int) < (p : Int) + 1 := by omega
          clear hcs hcn hca hcb hcp hsum b0 b1 b2 hIi hst HI hnn hkk hq1 hq2 hq3 hpe
          go_wp2
          go_region
          all_goals go_wp2
          all_goals go_roundw
          all_goals first
            | exact ⟨i + 1, kk + 2, by omega, by (have := HKK.out; omega), by go_num, HST.out.1, ⟨HB3.out.os, HB3.out.tape, HB3.out.output, HB3.out.size, HB3.out.block⟩, by go_simp⟩
            | (simp [intOf]; omega)
        · obtain rfl : i = m := by omega
          have HKK := Lib.hid hkk
          have k1 : ¬ (kk : Int) < (nn : Int) := by omega
          clear hnn hkk hpe
          rw [waysL_next p i (by omega) (by omega)] at hIi
          go_wp2
          go_roundw
          case rel => exact ⟨i + 1, nn + 2, by omega, by omega, by (have := HNN.out; omega), by go_num, hIi, hBi, hzi⟩
          case measure => simp [intOf]; omega
    · obtain rfl : m = p / 2 + 1 := by omega
      go_wp2
      go_ret
      exact ⟨_, _, rfl, HI.out.inn, hB⟩

end Go.Proofs.Ytmfbbbnenngehaa
