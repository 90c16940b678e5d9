/- Trains: periods, turns of the first wheel. -/
import Derived.Test.YtnnhjnogebicbabH1
import Derived.Test.YtnnhjnogebicbabEP
import Derived.Test.YtnnhjnogebicbabV0
import Derived.Deep.RegionHeld3
namespace Go.Proofs.Ytnnhjnogebicbab
open Go.RowKit
set_option linter.unusedVariables false

theorem Train.wheels {xs : List Int} (h : Train xs) : Wheels xs := ⟨h.1.2, h.2⟩
theorem Train.two {xs : List Int} (h : Train xs) : 2 ≤ xs.length := h.1.1

theorem nat_quo {t g q : Nat} (h : t / g = q) : (t : Int) / (g : Int) = (q : Int) := by rw [← h]; simp
theorem nat_mul {t g q : Nat} (h : t * g = q) : (t : Int) * (g : Int) = (q : Int) := by rw [← h]; simp

set_option maxHeartbeats 1000000 in
theorem periodOf_any (v : Value) (xs : List Int) (w : World) (h : ArgI w v xs) (hw : Wheels xs) :
    Calls Try.prog 43 #[v] w fun e w' => e = .returned (.int .i64 (perT xs xs.length : Nat)) ∧ Below w.heap.size w w' := by
  obtain ⟨a0, cap, a, rfl, ha, hm, hc⟩ := h
  have HC := Lib.hid hc
  have HA := Lib.hid ha
  have HR := Lib.hid (per_round hw)
  have n6 := hw.1
  clear hc ha hw
  go_enter Try.func43, Try.ntmps43
  go_wp2
  go_loopw [3, 8] (fun u i wr => ∃ k : Nat, k ≤ xs.length ∧ i = .int .i64 k ∧ u = .int .i64 (perT xs k : Nat) ∧ Below w.heap.size w wr) (fun _ i _ => xs.length - (intOf i).toNat)
  case atStart => exact ⟨0, by omega, rfl, by rw [perT_zero]; rfl, Below.refl _ _⟩
  case round =>
    obtain ⟨k, hk, rfl, rfl, hB⟩ := hrel
    have hz := hB.size
    by_cases hlt : k < xs.length
    · obtain rfl := HA.out (by omega)
      obtain ⟨P, t, g, q, p, R, hP, ht, hg, hq, hp, hR, m1, m2, b1, b2, b3, b4, b5, b6, b7, b8, b9, b10, b11, b12, hx⟩ := HR.out k hlt
      have cc := (hB.cell (World.block_lt_of_cell? w _ (HC.out k hlt))).trans (HC.out k hlt)
      rw [hx] at cc
      rw [hP]
      have HG := Lib.hid hg
      have HRR := Lib.hid hR
      have i1 := nat_quo hq
      have i2 := nat_mul m1
      have i3 : 1 ≤ (g : Int) := by omega
      clear hP ht hg hq hp hR m1 m2 hx
      go_wp2_with (first | (go_at_call 37; (refine (commonDivisor_any _ _ _ (by omega) (by omega)).mono ?_); rintro e w1 ⟨rfl, hb⟩; rw [HG.out]))
      go_roundw
      case rel => exact ⟨k + 1, by omega, by go_num, by rw [HRR.out], hB.trans (hb.mono hz)⟩
      case measure => simp [intOf]; omega
    · obtain rfl : k = xs.length := by omega
      go_wp2
      go_ret
      exact ⟨rfl, hB⟩

set_option maxHeartbeats 1000000 in
theorem gePeriod_yes (v : Value) (xs : List Int) (w : World) (h : ArgI w v xs) (hw : Wheels xs) (hp : perT xs xs.length ≤ 1000000000000) :
    Calls Try.prog 42 #[v] w fun e w' => e = .returned (.tuple #[.int .i64 (perT xs xs.length : Nat), .bool true]) ∧ Below w.heap.size w w' := by
  obtain ⟨a0, cap, a, rfl, ha, hm, hc⟩ := h
  have HC := Lib.hid hc
  have HA := Lib.hid ha
  have HR := Lib.hid (per_round hw)
  have HU := Lib.hid (fun k hk => perT_up hw k xs.length hk (Nat.le_refl _))
  have HP := Lib.hid hp
  have n6 := hw.1
  clear hc ha hw hp
  go_enter Try.func42, Try.ntmps42
  go_wp2
  go_loopw [4, 9] (fun u i wr => ∃ k : Nat, k ≤ xs.length ∧ i = .int .i64 k ∧ u = .int .i64 (perT xs k : Nat) ∧ perT xs k ≤ 1000000000000 ∧ Below w.heap.size w wr) (fun _ i _ => xs.length - (intOf i).toNat)
  case atStart => exact ⟨0, by omega, rfl, by rw [perT_zero]; rfl, by rw [perT_zero]; omega, Below.refl _ _⟩
  case round =>
    obtain ⟨k, hk, rfl, rfl, hle, hB⟩ := hrel
    have hz := hB.size
    by_cases hlt : k < xs.length
    · obtain rfl := HA.out (by omega)
      obtain ⟨P, t, g, q, p, R, hP, ht, hg, hq, hp, hR, m1, m2, b1, b2, b3, b4, b5, b6, b7, b8, b9, b10, b11, b12, hx⟩ := HR.out k hlt
      have cc := (hB.cell (World.block_lt_of_cell? w _ (HC.out k hlt))).trans (HC.out k hlt)
      rw [hx] at cc
      have hR2 := HU.out (k + 1) (by omega)
      rw [hR] at hR2
      rw [hP]
      have HG := Lib.hid hg
      have HRR := Lib.hid hR
      have i1 := nat_quo hp
      have i2 := nat_mul m2
      have i3 : 1 ≤ (g : Int) := by omega
      clear hP ht hg hq hp hR m1 m2 hx hle
      have hR3 : R ≤ 1000000000000 := Nat.le_trans hR2 HP.out
      have hR4 : ¬ 1000000000000 < (R : Int) := by omega
      clear hR2
      go_wp2_with (first | (go_at_call 34; (refine (srCommon_any _ _ _ (by omega) (by omega)).mono ?_); rintro e w1 ⟨rfl, hb⟩; rw [HG.out]))
      go_roundw
      case rel => exact ⟨k + 1, by omega, by go_num, by rw [HRR.out], by rw [HRR.out]; exact hR3, hB.trans (hb.mono hz)⟩
      case measure => simp [intOf]; omega
    · obtain rfl : k = xs.length := by omega
      go_wp2
      go_ret2
      exact ⟨rfl, hB⟩

set_option maxHeartbeats 400000 in
theorem iTrainPeriod_yes (v : Value) (xs : List Int) (w : World) (h : ArgI w v xs) (ht : Train xs) (hp : perT xs xs.length ≤ 1000000000000) :
    Calls Try.prog 19 #[v] w fun e w' => e = .returned (.tuple #[.int .i64 (perT xs xs.length : Nat), .bool true]) ∧ Below w.heap.size w w' := by
  have hb9 := perT_bd ht.wheels xs.length (Nat.le_refl _)
  have HO := Lib.hid (fun W h => periodOf_any v xs W h ht.wheels)
  obtain ⟨P, hP⟩ : ∃ P, perT xs xs.length = P := ⟨_, rfl⟩
  rw [hP] at HO hp hb9 ⊢
  have hq : ¬ 1000000000000 < (P : Int) := by omega
  clear hP
  have H := Lib.hid h
  clear h
  go_enter Try.func19, Try.ntmps19
  go_wp2_with (first | (go_at_call 36; (with_reducible refine (isTrain_yes _ _ _ H.out ht).mono ?_); rintro e w1 ⟨rfl, rfl⟩) | (go_at_call 43; (refine (HO.out _ H.out).mono ?_); rintro e w1 ⟨rfl, hb⟩))
  go_ret2
  exact ⟨rfl, hb⟩

set_option maxHeartbeats 400000 in
theorem sTrainPeriod_yes (v : Value) (xs : List Int) (w : World) (h : ArgI w v xs) (ht : Train xs) (hp : perT xs xs.length ≤ 1000000000000) :
    Calls Try.prog 18 #[v] w fun e w' => e = .returned (.tuple #[.int .i64 (perT xs xs.length : Nat), .bool true]) ∧ Below w.heap.size w w' := by
  have HO := Lib.hid (fun W h => gePeriod_yes v xs W h ht.wheels hp)
  have H := Lib.hid h
  clear h
  go_enter Try.func18, Try.ntmps18
  go_wp2_with (first | (go_at_call 32; (with_reducible refine (geTrain_yes _ _ _ H.out ht).mono ?_); rintro e w1 ⟨rfl, rfl⟩) | (go_at_call 42; (refine (HO.out _ H.out).mono ?_); rintro e w1 ⟨rfl, hb⟩))
  go_ret2
  exact ⟨rfl, hb⟩

set_option maxHeartbeats 1000000 in
theorem gePeriod_far (v : Value) (xs : List Int) (w : World) (h : ArgI w v xs) (hw : Wheels xs) (hp : ¬ perT xs xs.length ≤ 1000000000000) :
    Calls Try.prog 42 #[v] w fun e w' => e = .returned (.tuple #[.int .i64 0, .bool false]) ∧ Below w.heap.size w w' := by
  obtain ⟨a0, cap, a, rfl, ha, hm, hc⟩ := h
  have HC := Lib.hid hc
  have HA := Lib.hid ha
  have HR := Lib.hid (per_round hw)
  have HU := Lib.hid (fun k hk => perT_up hw k xs.length hk (Nat.le_refl _))
  have HP := Lib.hid hp
  have n6 := hw.1
  clear hc ha hw hp
  go_enter Try.func42, Try.ntmps42
  go_wp2
  go_loopw [4, 9] (fun u i wr => ∃ k : Nat, k ≤ xs.length ∧ i = .int .i64 k ∧ u = .int .i64 (perT xs k : Nat) ∧ perT xs k ≤ 1000000000000 ∧ Below w.heap.size w wr) (fun _ i _ => xs.length - (intOf i).toNat)
  case atStart => exact ⟨0, by omega, rfl, by rw [perT_zero]; rfl, by rw [perT_zero]; omega, Below.refl _ _⟩
  case round =>
    obtain ⟨k, hk, rfl, rfl, hle, hB⟩ := hrel
    have hz := hB.size
    by_cases hlt : k < xs.length
    · obtain rfl := HA.out (by omega)
      obtain ⟨P, t, g, q, p, R, hP, ht, hg, hq, hp, hR, m1, m2, b1, b2, b3, b4, b5, b6, b7, b8, b9, b10, b11, b12, hx⟩ := HR.out k hlt
      have cc := (hB.cell (World.block_lt_of_cell? w _ (HC.out k hlt))).trans (HC.out k hlt)
      rw [hx] at cc
      have hR2 := HU.out (k + 1) (by omega)
      rw [hR] at hR2
      rw [hP]
      have HG := Lib.hid hg
      have HRR := Lib.hid hR
      have i1 := nat_quo hp
      have i2 := nat_mul m2
      have i3 : 1 ≤ (g : Int) := by omega
      clear hP ht hg hq hp hR m1 m2 hx hle
      by_cases hR3 : R ≤ 1000000000000
      · have hR4 : ¬ 1000000000000 < (R : Int) := by omega
        clear hR2
        go_wp2_with (first | (go_at_call 34; (refine (srCommon_any _ _ _ (by omega) (by omega)).mono ?_); rintro e w1 ⟨rfl, hb⟩; rw [HG.out]))
        go_roundw
        case rel => exact ⟨k + 1, by omega, by go_num, by rw [HRR.out], by rw [HRR.out]; exact hR3, hB.trans (hb.mono hz)⟩
        case measure => simp [intOf]; omega
      · have hR4 : 1000000000000 < (R : Int) := by omega
        clear hR2
        go_wp2_with (first | (go_at_call 34; (refine (srCommon_any _ _ _ (by omega) (by omega)).mono ?_); rintro e w1 ⟨rfl, hb⟩; rw [HG.out]))
        go_ret2
        exact ⟨rfl, hB.trans (hb.mono hz)⟩
    · obtain rfl : k = xs.length := by omega
      exact absurd hle HP.out

set_option maxHeartbeats 400000 in
theorem iTrainPeriod_far (v : Value) (xs : List Int) (w : World) (h : ArgI w v xs) (ht : Train xs) (hp : ¬ perT xs xs.length ≤ 1000000000000) :
    Calls Try.prog 19 #[v] w fun e w' => e = .returned (.tuple #[.int .i64 0, .bool false]) ∧ Below w.heap.size w w' := by
  have hb9 := perT_bd ht.wheels xs.length (Nat.le_refl _)
  have HO := Lib.hid (fun W h => periodOf_any v xs W h ht.wheels)
  obtain ⟨P, hP⟩ : ∃ P, perT xs xs.length = P := ⟨_, rfl⟩
  rw [hP] at HO hp hb9 
  have hq : 1000000000000 < (P : Int) := by omega
  clear hP
  have H := Lib.hid h
  clear h
  go_enter Try.func19, Try.ntmps19
  go_wp2_with (first | (go_at_call 36; (with_reducible refine (isTrain_yes _ _ _ H.out ht).mono ?_); rintro e w1 ⟨rfl, rfl⟩) | (go_at_call 43; (refine (HO.out _ H.out).mono ?_); rintro e w1 ⟨rfl, hb⟩))
  go_ret2
  exact ⟨rfl, hb⟩

set_option maxHeartbeats 400000 in
theorem sTrainPeriod_far (v : Value) (xs : List Int) (w : World) (h : ArgI w v xs) (ht : Train xs) (hp : ¬ perT xs xs.length ≤ 1000000000000) :
    Calls Try.prog 18 #[v] w fun e w' => e = .returned (.tuple #[.int .i64 0, .bool false]) ∧ Below w.heap.size w w' := by
  have HO := Lib.hid (fun W h => gePeriod_far v xs W h ht.wheels hp)
  have H := Lib.hid h
  clear h
  go_enter Try.func18, Try.ntmps18
  go_wp2_with (first | (go_at_call 32; (with_reducible refine (geTrain_yes _ _ _ H.out ht).mono ?_); rintro e w1 ⟨rfl, rfl⟩) | (go_at_call 42; (refine (HO.out _ H.out).mono ?_); rintro e w1 ⟨rfl, hb⟩))
  go_ret2
  exact ⟨rfl, hb⟩

set_option maxHeartbeats 400000 in
theorem iTrainPeriod_no (v : Value) (xs : List Int) (w : World) (h : ArgI w v xs) (ht : ¬ Train xs) :
    Calls Try.prog 19 #[v] w fun e w' => e = .returned (.tuple #[.int .i64 0, .bool false]) ∧ Below w.heap.size w w' := by
  have H := Lib.hid h
  clear h
  go_enter Try.func19, Try.ntmps19
  go_wp2_with (first | (go_at_call 36; (with_reducible refine (isTrain_no _ _ _ H.out ht).mono ?_); rintro e w1 ⟨rfl, rfl⟩))
  go_ret2
  exact ⟨rfl, Below.refl _ _⟩

set_option maxHeartbeats 400000 in
theorem sTrainPeriod_no (v : Value) (xs : List Int) (w : World) (h : ArgI w v xs) (ht : ¬ Train xs) (hm : xs.length ≤ 1048576) :
    Calls Try.prog 18 #[v] w fun e w' => e = .returned (.tuple #[.int .i64 0, .bool false]) ∧ Below w.heap.size w w' := by
  have H := Lib.hid h
  clear h
  go_enter Try.func18, Try.ntmps18
  go_wp2_with (first | (go_at_call 32; (with_reducible refine (geTrain_no _ _ _ H.out ht hm).mono ?_); rintro e w1 ⟨rfl, rfl⟩))
  go_ret2
  exact ⟨rfl, Below.refl _ _⟩

/-- How many turns of the first wheel a period is. -/
def turnsT (xs : List Int) : Nat := perT xs xs.length / tn xs 0

theorem turns_is {xs : List Int} (h : Train xs) : ∃ P t q : Nat, perT xs xs.length = P ∧ xs.getD 0 0 = (t : Int) ∧ turnsT xs = q ∧ (P : Int) / (t : Int) = (q : Int) ∧ 1 ≤ t ∧ t ≤ 300 ∧ P ≤ 729000000000000 ∧ q ≤ P := by
  have h1 := h.wheels.tn (i := 0) (by have := h.two; omega)
  exact ⟨_, tn xs 0, _, rfl, h1.1.symm, rfl, by unfold turnsT; simp, h1.2.1, h1.2.2, perT_bd h.wheels _ (Nat.le_refl _), Nat.div_le_self _ _⟩

set_option maxHeartbeats 400000 in
theorem iLeastTurns_yes (v : Value) (xs : List Int) (w : World) (h : ArgI w v xs) (ht : Train xs) (hp : perT xs xs.length ≤ 1000000000000) :
    Calls Try.prog 21 #[v] w fun e w' => e = .returned (.tuple #[.int .i64 (turnsT xs : Nat), .bool true]) ∧ Below w.heap.size w w' := by
  obtain ⟨P, t, q, hP, htt, hq, hd, t1, t2, t3, t4⟩ := turns_is ht
  have HO := Lib.hid (fun W h => iTrainPeriod_yes v xs W h ht hp)
  rw [hP] at HO
  have two := ht.two
  have h' := h
  obtain ⟨a0, cap, a, rfl, ha, hm, hc⟩ := h'
  obtain rfl := ha (by omega)
  have HC0 := Lib.hid (show w.cell? a = some (.int .i64 (t : Int)) by have h0 := hc 0 (by omega); rw [htt, show a.add 0 = a from by cases a; simp [Addr.add]] at h0; exact h0)
  rw [hq]
  have H := Lib.hid h
  have l1 : 0 < (xs.length : Int) := by omega
  clear hP hp hq htt ha hc h
  go_enter Try.func21, Try.ntmps21
  go_wp2_with (first | (go_at_call 19; (refine (HO.out _ H.out).mono ?_); rintro e w1 ⟨rfl, hb⟩; have cc := (hb.cell (World.block_lt_of_cell? w _ HC0.out)).trans HC0.out))
  go_ret2
  exact ⟨by first | rfl | rw [hd], hb⟩

set_option maxHeartbeats 400000 in
theorem iLeastTurns_far (v : Value) (xs : List Int) (w : World) (h : ArgI w v xs) (ht : Train xs) (hp : ¬ perT xs xs.length ≤ 1000000000000) :
    Calls Try.prog 21 #[v] w fun e w' => e = .returned (.tuple #[.int .i64 0, .bool false]) ∧ Below w.heap.size w w' := by
  obtain ⟨P, t, q, hP, htt, hq, hd, t1, t2, t3, t4⟩ := turns_is ht
  have HO := Lib.hid (fun W h => iTrainPeriod_far v xs W h ht hp)
  skip
  have two := ht.two
  have h' := h
  obtain ⟨a0, cap, a, rfl, ha, hm, hc⟩ := h'
  obtain rfl := ha (by omega)
  have HC0 := Lib.hid (show w.cell? a = some (.int .i64 (t : Int)) by have h0 := hc 0 (by omega); rw [htt, show a.add 0 = a from by cases a; simp [Addr.add]] at h0; exact h0)
  skip
  have H := Lib.hid h
  have l1 : 0 < (xs.length : Int) := by omega
  clear hP hp hq htt ha hc h
  go_enter Try.func21, Try.ntmps21
  go_wp2_with (first | (go_at_call 19; (refine (HO.out _ H.out).mono ?_); rintro e w1 ⟨rfl, hb⟩))
  go_ret2
  exact ⟨by first | rfl | rw [hd], hb⟩

set_option maxHeartbeats 400000 in
theorem sLeastTurns_yes (v : Value) (xs : List Int) (w : World) (h : ArgI w v xs) (ht : Train xs) (hp : perT xs xs.length ≤ 1000000000000) :
    Calls Try.prog 20 #[v] w fun e w' => e = .returned (.tuple #[.int .i64 (turnsT xs : Nat), .bool true]) ∧ Below w.heap.size w w' := by
  obtain ⟨P, t, q, hP, htt, hq, hd, t1, t2, t3, t4⟩ := turns_is ht
  have HO := Lib.hid (fun W h => gePeriod_yes v xs W h ht.wheels hp)
  rw [hP] at HO
  have two := ht.two
  have h' := h
  obtain ⟨a0, cap, a, rfl, ha, hm, hc⟩ := h'
  obtain rfl := ha (by omega)
  have HC0 := Lib.hid (show w.cell? a = some (.int .i64 (t : Int)) by have h0 := hc 0 (by omega); rw [htt, show a.add 0 = a from by cases a; simp [Addr.add]] at h0; exact h0)
  rw [hq]
  have H := Lib.hid h
  have l1 : 0 < (xs.length : Int) := by omega
  clear hP hp hq htt ha hc h
  go_enter Try.func20, Try.ntmps20
  go_wp2_with (first | (go_at_call 32; (with_reducible refine (geTrain_yes _ _ _ H.out ht).mono ?_); rintro e w1 ⟨rfl, rfl⟩) | (go_at_call 42; (refine (HO.out _ H.out).mono ?_); rintro e w1 ⟨rfl, hb⟩; have cc := (hb.cell (World.block_lt_of_cell? w _ HC0.out)).trans HC0.out))
  go_ret2
  exact ⟨by first | rfl | rw [hd], hb⟩

set_option maxHeartbeats 400000 in
theorem sLeastTurns_far (v : Value) (xs : List Int) (w : World) (h : ArgI w v xs) (ht : Train xs) (hp : ¬ perT xs xs.length ≤ 1000000000000) :
    Calls Try.prog 20 #[v] w fun e w' => e = .returned (.tuple #[.int .i64 0, .bool false]) ∧ Below w.heap.size w w' := by
  obtain ⟨P, t, q, hP, htt, hq, hd, t1, t2, t3, t4⟩ := turns_is ht
  have HO := Lib.hid (fun W h => gePeriod_far v xs W h ht.wheels hp)
  skip
  have two := ht.two
  have h' := h
  obtain ⟨a0, cap, a, rfl, ha, hm, hc⟩ := h'
  obtain rfl := ha (by omega)
  have HC0 := Lib.hid (show w.cell? a = some (.int .i64 (t : Int)) by have h0 := hc 0 (by omega); rw [htt, show a.add 0 = a from by cases a; simp [Addr.add]] at h0; exact h0)
  skip
  have H := Lib.hid h
  have l1 : 0 < (xs.length : Int) := by omega
  clear hP hp hq htt ha hc h
  go_enter Try.func20, Try.ntmps20
  go_wp2_with (first | (go_at_call 32; (with_reducible refine (geTrain_yes _ _ _ H.out ht).mono ?_); rintro e w1 ⟨rfl, rfl⟩) | (go_at_call 42; (refine (HO.out _ H.out).mono ?_); rintro e w1 ⟨rfl, hb⟩))
  go_ret2
  exact ⟨by first | rfl | rw [hd], hb⟩

set_option maxHeartbeats 400000 in
theorem iLeastTurns_no (v : Value) (xs : List Int) (w : World) (h : ArgI w v xs) (ht : ¬ Train xs) :
    Calls Try.prog 21 #[v] w fun e w' => e = .returned (.tuple #[.int .i64 0, .bool false]) ∧ Below w.heap.size w w' := by
  have H := Lib.hid h
  clear h
  go_enter Try.func21, Try.ntmps21
  go_wp2_with (first | (go_at_call 19; (with_reducible refine (iTrainPeriod_no _ _ _ H.out ht).mono ?_); rintro e w1 ⟨rfl, hb⟩))
  go_ret2
  exact ⟨rfl, hb⟩

set_option maxHeartbeats 400000 in
theorem sLeastTurns_no (v : Value) (xs : List Int) (w : World) (h : ArgI w v xs) (ht : ¬ Train xs) (hm : xs.length ≤ 1048576) :
    Calls Try.prog 20 #[v] w fun e w' => e = .returned (.tuple #[.int .i64 0, .bool false]) ∧ Below w.heap.size w w' := by
  have H := Lib.hid h
  clear h
  go_enter Try.func20, Try.ntmps20
  go_wp2_with (first | (go_at_call 32; (with_reducible refine (geTrain_no _ _ _ H.out ht hm).mono ?_); rintro e w1 ⟨rfl, rfl⟩))
  go_ret2
  exact ⟨rfl, Below.refl _ _⟩

set_option maxHeartbeats 1000000 in
theorem core_TrainPeriod (v : Value) (xs : List Int) (n : Int) (b : Bool) (w : World) (hA0 : ArgI w v xs) (hn0 : xs.length ≤ 1048576) 
    (hs : ∀ (W : World) (u0 : Value) (B0 T0 : Nat), IntsIn 3 W B0 T0 u0 xs → T0 ≤ W.heap.size → Calls Try.prog 18 #[u0] W (fun e w' => e = .returned (.tuple #[.int .i64 n, .bool b]) ∧ Below W.heap.size W w'))
    (hi : ∀ (W : World) (u0 : Value) (B0 T0 : Nat), IntsIn 3 W B0 T0 u0 xs → T0 ≤ W.heap.size → Calls Try.prog 19 #[u0] W (fun e w' => e = .returned (.tuple #[.int .i64 n, .bool b]) ∧ Below W.heap.size W w')) :
    Calls Try.prog 5 #[v] w fun e w' => e = .returned (.bool true) ∧ Below w.heap.size w w' := by
  have hA0' := hA0
  obtain ⟨a00, cap0, a0, rfl, _⟩ := hA0'
  have HA0 := Lib.hid hA0
  clear hA0
  have HS := Lib.hid hs
  have HI := Lib.hid hi
  clear hs hi
  go_enter Try.func5, Try.ntmps5
  go_wp2_with fail
  refine (toIntS_any _ _ _ (HA0.out.later (by go_grown)) hn0).mono ?_
  rintro e w1 ⟨va0, rfl, ka0_1, hb1⟩
  have n1 : w.heap.size ≤ w1.heap.size := by have := hb1.size; (try simp at this); omega
  have B1 : Below w.heap.size w w1 := Below.trans (by go_grown) (hb1.mono (by first | (simp; done) | (simp; omega)))
  go_wp2_with fail
  refine (HS.out _ _ _ _ ka0_1 (by omega)).mono ?_
  rintro e w2 ⟨rfl, hb2⟩
  have n2 := hb2.size
  have B2 := B1.trans (hb2.mono (by omega))
  have ka0_2 := ka0_1.keep (belowSame hb2 (by omega))
  go_wp2_with fail
  refine (toIntS_any _ _ _ (HA0.out.later B2) hn0).mono ?_
  rintro e w3 ⟨vc0, rfl, kc0_3, hb3⟩
  have n3 := hb3.size
  have B3 := B2.trans (hb3.mono (by omega))
  have ka0_3 := ka0_2.keep (belowSame hb3 (by omega))
  go_wp2_with fail
  refine (HI.out _ _ _ _ kc0_3 (by omega)).mono ?_
  rintro e w4 ⟨rfl, hb4⟩
  have n4 := hb4.size
  have B4 := B3.trans (hb4.mono (by omega))
  have ka0_4 := ka0_3.keep (belowSame hb4 (by omega))
  have kc0_4 := kc0_3.keep (belowSame hb4 (by omega))
  go_wp2_with fail
  refine (toIntS_any _ _ _ (HA0.out.later B4) hn0).mono ?_
  rintro e w5 ⟨vd0, rfl, kd0_5, hb5⟩
  have n5 := hb5.size
  have B5 := B4.trans (hb5.mono (by omega))
  have ka0_5 := ka0_4.keep (belowSame hb5 (by omega))
  have kc0_5 := kc0_4.keep (belowSame hb5 (by omega))
  go_wp2_with fail
  refine (eqIntS_in _ _ _ _ _ _ _ _ _ kc0_5 kd0_5).mono ?_
  rintro e w6 ⟨rfl, hb6⟩
  have n6 := hb6.size
  have B6 := B5.trans (hb6.mono (by omega))
  have ka0_6 := ka0_5.keep (belowSame hb6 (by omega))
  have kc0_6 := kc0_5.keep (belowSame hb6 (by omega))
  have kd0_6 := kd0_5.keep (belowSame hb6 (by omega))
  go_wp2_with fail
  go_ret
  exact ⟨rfl, B6⟩

set_option maxHeartbeats 400000 in
theorem long0_TrainPeriod (v : Value) (xs : List Int) (w : World) (hA0 : ArgI w v xs) (hn0 : ¬ xs.length ≤ 1048576) :
    Calls Try.prog 5 #[v] w fun e w' => e = .returned (.bool true) ∧ Below w.heap.size w w' := by
  obtain ⟨a00, cap0, a0, rfl, _, hm0, _⟩ := hA0
  unfold maxLen at *
  go_enter Try.func5, Try.ntmps5
  go_wp2
  go_ret
  exact ⟨rfl, by go_grown⟩

theorem walk_TrainPeriod (v : Value) (xs : List Int) (w : World) (hA : ArgI w v xs) :
    Calls Try.prog 5 #[v] w fun e w' => e = .returned (.bool true) ∧ Below w.heap.size w w' := by
  by_cases hn : xs.length ≤ 1048576
  · by_cases ht : Train xs
    · by_cases hp : perT xs xs.length ≤ 1000000000000
      · exact core_TrainPeriod v xs (perT xs xs.length : Nat) true w hA hn (fun W u B T h _ => sTrainPeriod_yes u xs W h.arg ht hp) (fun W u B T h _ => iTrainPeriod_yes u xs W h.arg ht hp)
      · exact core_TrainPeriod v xs 0 false w hA hn (fun W u B T h _ => sTrainPeriod_far u xs W h.arg ht hp) (fun W u B T h _ => iTrainPeriod_far u xs W h.arg ht hp)
    · exact core_TrainPeriod v xs 0 false w hA hn (fun W u B T h _ => sTrainPeriod_no u xs W h.arg ht hn) (fun W u B T h _ => iTrainPeriod_no u xs W h.arg ht)
  · exact long0_TrainPeriod v xs w hA hn

set_option maxHeartbeats 1000000 in
theorem core_LeastTurns (v : Value) (xs : List Int) (n : Int) (b : Bool) (w : World) (hA0 : ArgI w v xs) (hn0 : xs.length ≤ 1048576) 
    (hs : ∀ (W : World) (u0 : Value) (B0 T0 : Nat), IntsIn 3 W B0 T0 u0 xs → T0 ≤ W.heap.size → Calls Try.prog 20 #[u0] W (fun e w' => e = .returned (.tuple #[.int .i64 n, .bool b]) ∧ Below W.heap.size W w'))
    (hi : ∀ (W : World) (u0 : Value) (B0 T0 : Nat), IntsIn 3 W B0 T0 u0 xs → T0 ≤ W.heap.size → Calls Try.prog 21 #[u0] W (fun e w' => e = .returned (.tuple #[.int .i64 n, .bool b]) ∧ Below W.heap.size W w')) :
    Calls Try.prog 6 #[v] w fun e w' => e = .returned (.bool true) ∧ Below w.heap.size w w' := by
  have hA0' := hA0
  obtain ⟨a00, cap0, a0, rfl, _⟩ := hA0'
  have HA0 := Lib.hid hA0
  clear hA0
  have HS := Lib.hid hs
  have HI := Lib.hid hi
  clear hs hi
  go_enter Try.func6, Try.ntmps6
  go_wp2_with fail
  refine (toIntS_any _ _ _ (HA0.out.later (by go_grown)) hn0).mono ?_
  rintro e w1 ⟨va0, rfl, ka0_1, hb1⟩
  have n1 : w.heap.size ≤ w1.heap.size := by have := hb1.size; (try simp at this); omega
  have B1 : Below w.heap.size w w1 := Below.trans (by go_grown) (hb1.mono (by first | (simp; done) | (simp; omega)))
  go_wp2_with fail
  refine (HS.out _ _ _ _ ka0_1 (by omega)).mono ?_
  rintro e w2 ⟨rfl, hb2⟩
  have n2 := hb2.size
  have B2 := B1.trans (hb2.mono (by omega))
  have ka0_2 := ka0_1.keep (belowSame hb2 (by omega))
  go_wp2_with fail
  refine (toIntS_any _ _ _ (HA0.out.later B2) hn0).mono ?_
  rintro e w3 ⟨vc0, rfl, kc0_3, hb3⟩
  have n3 := hb3.size
  have B3 := B2.trans (hb3.mono (by omega))
  have ka0_3 := ka0_2.keep (belowSame hb3 (by omega))
  go_wp2_with fail
  refine (HI.out _ _ _ _ kc0_3 (by omega)).mono ?_
  rintro e w4 ⟨rfl, hb4⟩
  have n4 := hb4.size
  have B4 := B3.trans (hb4.mono (by omega))
  have ka0_4 := ka0_3.keep (belowSame hb4 (by omega))
  have kc0_4 := kc0_3.keep (belowSame hb4 (by omega))
  go_wp2_with fail
  refine (toIntS_any _ _ _ (HA0.out.later B4) hn0).mono ?_
  rintro e w5 ⟨vd0, rfl, kd0_5, hb5⟩
  have n5 := hb5.size
  have B5 := B4.trans (hb5.mono (by omega))
  have ka0_5 := ka0_4.keep (belowSame hb5 (by omega))
  have kc0_5 := kc0_4.keep (belowSame hb5 (by omega))
  go_wp2_with fail
  refine (eqIntS_in _ _ _ _ _ _ _ _ _ kc0_5 kd0_5).mono ?_
  rintro e w6 ⟨rfl, hb6⟩
  have n6 := hb6.size
  have B6 := B5.trans (hb6.mono (by omega))
  have ka0_6 := ka0_5.keep (belowSame hb6 (by omega))
  have kc0_6 := kc0_5.keep (belowSame hb6 (by omega))
  have kd0_6 := kd0_5.keep (belowSame hb6 (by omega))
  go_wp2_with fail
  go_ret
  exact ⟨rfl, B6⟩

set_option maxHeartbeats 400000 in
theorem long0_LeastTurns (v : Value) (xs : List Int) (w : World) (hA0 : ArgI w v xs) (hn0 : ¬ xs.length ≤ 1048576) :
    Calls Try.prog 6 #[v] w fun e w' => e = .returned (.bool true) ∧ Below w.heap.size w w' := by
  obtain ⟨a00, cap0, a0, rfl, _, hm0, _⟩ := hA0
  unfold maxLen at *
  go_enter Try.func6, Try.ntmps6
  go_wp2
  go_ret
  exact ⟨rfl, by go_grown⟩

theorem walk_LeastTurns (v : Value) (xs : List Int) (w : World) (hA : ArgI w v xs) :
    Calls Try.prog 6 #[v] w fun e w' => e = .returned (.bool true) ∧ Below w.heap.size w w' := by
  by_cases hn : xs.length ≤ 1048576
  · by_cases ht : Train xs
    · by_cases hp : perT xs xs.length ≤ 1000000000000
      · exact core_LeastTurns v xs (turnsT xs : Nat) true w hA hn (fun W u B T h _ => sLeastTurns_yes u xs W h.arg ht hp) (fun W u B T h _ => iLeastTurns_yes u xs W h.arg ht hp)
      · exact core_LeastTurns v xs 0 false w hA hn (fun W u B T h _ => sLeastTurns_far u xs W h.arg ht hp) (fun W u B T h _ => iLeastTurns_far u xs W h.arg ht hp)
    · exact core_LeastTurns v xs 0 false w hA hn (fun W u B T h _ => sLeastTurns_no u xs W h.arg ht hn) (fun W u B T h _ => iLeastTurns_no u xs W h.arg ht)
  · exact long0_LeastTurns v xs w hA hn

end Go.Proofs.Ytnnhjnogebicbab
