/- The model's table of plane pairings; CountPlanePairings. -/
import Derived.Test.YtenkokkhdcjcaabQ1
namespace Go.Proofs.Ytenkokkhdcjcaab
open Go.RowKit

set_option maxHeartbeats 1000000 in
theorem cdPlane_any (p : Nat) (w : World) (hp : (4 ≤ p ∧ p ≤ 30) ∧ p % 2 = 0) :
    Calls Try.prog 45 #[.int .i64 p] w fun e w' => ∃ g cap, e = .returned (.slice (some ⟨g, 0, none⟩) (p + 1) cap) ∧ IntsIn 3 w' w.heap.size w'.heap.size (.slice (some ⟨g, 0, none⟩) (p + 1) cap) (waysL p (p / 2 + 1) 0) ∧ Below w.heap.size w w' := by
  obtain ⟨⟨hp4, hp30⟩, hpe⟩ := hp
  have hmk := make_ints (P := Try.prog) Try.underlying39 info_int (p + 1) (by omega)
  rw [show ((p + 1 : Nat) : Int) = (p : Int) + 1 by omega] at hmk
  have I0 := Ints.made w w.heap.size 3 (p + 1) (Nat.le_refl _) (by omega)
  have S0 := I0.stored 0 1
  rw [← waysL_first] at S0
  have c0 := I0.cellAt 0 (by simp)
  have f0 := I0.frozenAt 0
  rw [World.setCell_alloc_at (hn := rfl)] at S0
  have HS0 := Lib.hid S0
  clear I0 S0
  go_enter Try.func45, Try.ntmps45
  go_wp2
  go_loopw [4] (fun n wr => ∃ m nn : Nat, 1 ≤ m ∧ m ≤ p / 2 + 1 ∧ nn = 2 * m ∧ n = .int .i64 nn ∧ Ints wr w.heap.size 3 (.slice (some ⟨w.heap.size, 0, none⟩) (p + 1) (p + 1)) (waysL p m 0) ∧ Below w.heap.size w wr ∧ w.heap.size < wr.heap.size) (fun n _ => p + 2 - (intOf n).toNat)
  case atStart => exact ⟨1, 2, by omega, by omega, by omega, rfl, HS0.out.1, by go_grown, by simp⟩
  case round =>
    obtain ⟨wo, rfl⟩ : ∃ z, z = wr := ⟨wr, rfl⟩
    obtain ⟨m, nn, hm1, hm2, hnn, rfl, hI, hB, hz⟩ := hrel
    have HI := Lib.hid hI
    have HNN := Lib.hid hnn
    clear hI hmk c0 f0 HS0
    by_cases hlt : m ≤ p / 2
    · have hnp : nn ≤ p := by omega
      clear hnn
      go_wp2
      go_loopw [5] (fun k wr => ∃ i kk : Nat, i ≤ m ∧ kk = 2 * i + 1 ∧ k = .int .i64 kk ∧ Ints wr w.heap.size 3 (.slice (some ⟨w.heap.size, 0, none⟩) (p + 1) (p + 1)) (waysL p m i) ∧ Below w.heap.size w wr ∧ w.heap.size < wr.heap.size) (fun k _ => nn + 1 - (intOf k).toNat)
      case atStart => exact ⟨0, 1, by omega, by omega, rfl, HI.out, hB, hz⟩
      case round =>
        obtain ⟨i, kk, hi, hkk, rfl, hIi, hBi, hzi⟩ := hrel
        have hnn := HNN.out
        by_cases hil : i < m
        · obtain ⟨q1, hq1⟩ : ∃ q, q = 2 * i := ⟨_, rfl⟩
          obtain ⟨q2, hq2⟩ : ∃ q, q = 2 * (m - 1 - i) := ⟨_, rfl⟩
          obtain ⟨q3, hq3⟩ : ∃ q, q = nn - 1 := ⟨_, rfl⟩
          have e1 : IntKind.i64.wrap ((kk : Int) - 1) = (q1 : Int) := by rw [IntKind.wrap_i64]; omega
          have e3 : IntKind.i64.wrap ((nn : Int) - 1) = (q3 : Int) := by rw [IntKind.wrap_i64]; omega
          have e2 : IntKind.i64.wrap ((q3 : Int) - (kk : Int)) = (q2 : Int) := by rw [IntKind.wrap_i64]; omega
          have hl := waysL_length p m i
          have x0 := hIi.cellAt nn (by omega)
          have x1 := hIi.cellAt q1 (by omega)
          have x2 := hIi.cellAt q2 (by omega)
          have fr := hIi.frozenAt nn
          rw [waysL_get _ _ _ _ (by omega), if_pos (by omega), if_neg (by omega), if_pos (by omega)] at x0
          rw [waysL_get _ _ _ _ (by omega), if_pos (by omega), if_pos (by omega), show q1 / 2 = i by omega] at x1
          rw [waysL_get _ _ _ _ (by omega), if_pos (by omega), if_pos (by omega), show q2 / 2 = m - 1 - i by omega] at x2
          have b0 := catSum_le m i (by omega) (by omega) hi
          have b1 := cat_le i (by omega)
          have b2 := cat_le (m - 1 - i) (by omega)
          have b3 := catSum_le m (i + 1) (by omega) (by omega) hil
          have hst := hIi.stored nn ((catSum m (i + 1) : Nat) : Int)
          rw [hnn, waysL_set _ _ _ (by omega), ← hnn] at hst
          have HST := Lib.hid hst
          have hsum : catSum m (i + 1) = catSum m i + cat i * cat (m - 1 - i) := rfl
          obtain ⟨cs, hcs⟩ : ∃ c, c = catSum m i := ⟨_, rfl⟩
          obtain ⟨cn, hcn⟩ : ∃ c, c = catSum m (i + 1) := ⟨_, rfl⟩
          obtain ⟨ca, hca⟩ : ∃ c, c = cat i := ⟨_, rfl⟩
          obtain ⟨cb, hcb⟩ : ∃ c, c = cat (m - 1 - i) := ⟨_, rfl⟩
          rw [← hcs, ← hcn, ← hca, ← hcb] at hsum
          rw [← hcs] at x0 b0
          rw [← hca] at x1 b1
          rw [← hcb] at x2 b2
          rw [← hcn] at b3 HST
          obtain ⟨cp, hcp⟩ : ∃ c, c = ca * cb := ⟨_, rfl⟩
          rw [← hcp] at hsum
          have hmul : IntKind.i64.wrap ((ca : Int) * (cb : Int)) = (cp : Int) := by
            have h1 : (ca : Int) * (cb : Int) = (cp : Int) := by rw [hcp]; push_cast; rfl
            rw [h1, IntKind.wrap_i64]
            omega
          have hadd : IntKind.i64.wrap ((cs : Int) + (cp : Int)) = (cn : Int) := by rw [IntKind.wrap_i64]; omega
          have HB3 := Lib.hid (hIi.below hBi (by omega) HST.out.2)
          have HKK := Lib.hid hkk
          have k1 : (kk : Int) < (nn : Int) := by omega
          have k2 : (nn : Int) ≤ 30 := by omega
          have k3 : (q1 : Int) < (p : Int) + 1 := by omega
          have k4 : (q2 : Int) < (p : Int) + 1 := by omega
          have k5 : (nn : Int) < (p : Int) + 1 := by omega
          clear hcs hcn hca hcb hcp hsum b0 b1 b2 hIi hst HI hnn hkk hq1 hq2 hq3 hpe
          go_wp2
          go_region
          all_goals go_wp2
          all_goals go_roundw
          all_goals first
            | exact ⟨i + 1, kk + 2, by omega, by (have := HKK.out; omega), by go_num, HST.out.1, ⟨HB3.out.os, HB3.out.tape, HB3.out.output, HB3.out.size, HB3.out.block⟩, by go_simp⟩
            | (simp [intOf]; omega)
        · obtain rfl : i = m := by omega
          have HKK := Lib.hid hkk
          have k1 : ¬ (kk : Int) < (nn : Int) := by omega
          clear hnn hkk hpe
          rw [waysL_next p i (by omega) (by omega)] at hIi
          go_wp2
          go_roundw
          case rel => exact ⟨i + 1, nn + 2, by omega, by omega, by (have := HNN.out; omega), by go_num, hIi, hBi, hzi⟩
          case measure => simp [intOf]; omega
    · obtain rfl : m = p / 2 + 1 := by omega
      go_wp2
      go_ret
      exact ⟨_, _, rfl, HI.out.inn, hB⟩

set_option maxHeartbeats 400000 in
theorem sCountPlane_yes (p : Nat) (w : World) (hp : (4 ≤ p ∧ p ≤ 30) ∧ p % 2 = 0) :
    Calls Try.prog 13 #[.int .i64 p] w fun e w' => e = .returned (.tuple #[.int .i64 (cat (p / 2) : Nat), .bool true]) ∧ Below w.heap.size w w' := by
  have hg := waysL_get p (p / 2 + 1) 0 p (Nat.le_refl _)
  rw [if_pos hp.2, if_pos (by omega)] at hg
  have hl := waysL_length p (p / 2 + 1) 0
  have HG := Lib.hid hg
  have hpp : (4 ≤ (p : Int) ∧ (p : Int) ≤ 30) ∧ (p : Int) % 2 = 0 := by omega
  clear hg
  go_enter Try.func13, Try.ntmps13
  go_wp2_with (first | (go_at_call 44; (with_reducible refine (cdPlanePoints_yes _ _ hpp).mono ?_); rintro e w1 ⟨rfl, rfl⟩) | (go_at_call 45; (with_reducible refine (cdPlane_any p _ hp).mono ?_); rintro e w1 ⟨g, cap, rfl, hi, hb⟩; have cc := hi.1.cellAt p (by omega); rw [HG.out] at cc))
  go_ret2
  exact ⟨rfl, hb⟩

set_option maxHeartbeats 400000 in
theorem sCountPlane_no (p : Int) (w : World) (hp : ¬ ((4 ≤ p ∧ p ≤ 30) ∧ p % 2 = 0)) :
    Calls Try.prog 13 #[.int .i64 p] w fun e w' => e = .returned (.tuple #[.int .i64 0, .bool false]) ∧ Below w.heap.size w w' := by
  go_enter Try.func13, Try.ntmps13
  go_wp2_with (first | (go_at_call 44; (with_reducible refine (cdPlanePoints_no _ _ hp).mono ?_); rintro e w1 ⟨rfl, rfl⟩))
  go_ret2
  exact ⟨rfl, by go_grown⟩

set_option maxHeartbeats 400000 in
theorem iCountPlane_yes (p : Nat) (w : World) (hp : (4 ≤ p ∧ p ≤ 30) ∧ p % 2 = 0) :
    Calls Try.prog 14 #[.int .i64 p] w fun e w' => e = .returned (.tuple #[.int .i64 (cat (p / 2) : Nat), .bool true]) ∧ Below w.heap.size w w' := by
  have hpp : (3 ≤ (p : Int) ∧ (p : Int) ≤ 60) ∧ (p : Int) ≤ 30 ∧ (p : Int) % 2 = 0 := by omega
  have hc := countPlane_any (p / 2)
  have hq : ((p / 2 : Nat) : Int) = (p : Int) / 2 := by omega
  rw [hq] at hc
  have HC := Lib.hid hc
  have hp15 : p / 2 ≤ 15 := by omega
  clear hq hc
  go_enter Try.func14, Try.ntmps14
  go_wp2_with (first | (go_at_call 46; (with_reducible refine (arePaired_yes _ _ _ hpp).mono ?_); rintro e w1 ⟨rfl, rfl⟩) | (go_at_call 47; (with_reducible refine (HC.out _ hp15).mono ?_); rintro e w1 ⟨rfl, rfl⟩))
  go_ret2
  exact ⟨rfl, by go_grown⟩

set_option maxHeartbeats 400000 in
theorem iCountPlane_no (p : Int) (w : World) (hp : ¬ ((4 ≤ p ∧ p ≤ 30) ∧ p % 2 = 0)) :
    Calls Try.prog 14 #[.int .i64 p] w fun e w' => e = .returned (.tuple #[.int .i64 0, .bool false]) ∧ Below w.heap.size w w' := by
  have hpp : ¬ ((3 ≤ (p : Int) ∧ (p : Int) ≤ 60) ∧ (p : Int) ≤ 30 ∧ (p : Int) % 2 = 0) := by omega
  go_enter Try.func14, Try.ntmps14
  go_wp2_with (first | (go_at_call 46; (with_reducible refine (arePaired_no _ _ _ hpp).mono ?_); rintro e w1 ⟨rfl, rfl⟩))
  go_ret2
  exact ⟨rfl, by go_grown⟩

set_option maxHeartbeats 400000 in
theorem core_CountPlanePairings (p x : Int) (b : Bool) (w : World)
    (hs : ∀ W, Calls Try.prog 13 #[.int .i64 p] W fun e w' => e = .returned (.tuple #[.int .i64 x, .bool b]) ∧ Below W.heap.size W w')
    (hi : ∀ W, Calls Try.prog 14 #[.int .i64 p] W fun e w' => e = .returned (.tuple #[.int .i64 x, .bool b]) ∧ Below W.heap.size W w') :
    Calls Try.prog 3 #[.int .i64 p] w fun e w' => e = .returned (.bool true) ∧ Below w.heap.size w w' := by
  have HS := Lib.hid hs
  have HI := Lib.hid hi
  clear hs hi
  go_enter Try.func3, Try.ntmps3
  go_wp2_with fail
  refine (HS.out _).mono ?_
  rintro e w1 ⟨rfl, hb1⟩
  go_wp2_with fail
  refine (HI.out _).mono ?_
  rintro e w2 ⟨rfl, hb2⟩
  go_wp2_with fail
  go_ret
  exact ⟨rfl, hb1.trans (hb2.mono hb1.size)⟩

theorem walk_CountPlanePairings (p : Int) (w : World) (_ : (Lit.int .i64 p).wf = true) :
    Calls Try.prog 3 #[.int .i64 p] w fun e w' => e = .returned (.bool true) ∧ Below w.heap.size w w' := by
  by_cases hp : (4 ≤ p ∧ p ≤ 30) ∧ p % 2 = 0
  · obtain ⟨n, rfl⟩ := Int.eq_ofNat_of_zero_le (show 0 ≤ p by omega)
    have h : (4 ≤ n ∧ n ≤ 30) ∧ n % 2 = 0 := by omega
    exact core_CountPlanePairings _ _ _ w (fun W => sCountPlane_yes n W h) (fun W => iCountPlane_yes n W h)
  · exact core_CountPlanePairings _ _ _ w (fun W => sCountPlane_no p W hp) (fun W => iCountPlane_no p W hp)

end Go.Proofs.Ytenkokkhdcjcaab
