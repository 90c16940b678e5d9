/- FnCrossingsTold: the walk. -/
import Derived.Test.YtlkehdjfmmghjabZ9
namespace Go.Proofs.Ytlkehdjfmmghjab
open Go.RowKit
set_option linter.unusedVariables false

set_option maxRecDepth 100000 in
set_option maxHeartbeats 4000000 in
theorem core_CrossingsTold (p s : Nat) (w : World) (h : 3 ≤ p ∧ p ≤ 60 ∧ 1 ≤ s ∧ s < p) :
    Calls Try.prog 7 #[.agg #[.int .i64 (p : Int), .int .i64 (s : Int)]] w fun e w' => e = .returned (.bool true) ∧ Below w.heap.size w w' := by
  have d1 := fun W => iChordsOf_yes p s W h
  have d2 := fun W => sChordsOf_yes p s W h
  have d3 := fun W => iCountCrossings_yes p s W h
  have hl := starC_length p s
  have hlt := starC_pairs p s ⟨h.2.2.1, h.2.2.2⟩
  obtain ⟨xs, hxs⟩ : ∃ xs, starC p s = xs := ⟨_, rfl⟩
  simp only [hxs] at d1 d2 d3 hl hlt
  obtain ⟨n, hn⟩ : ∃ n, xs.length = n := ⟨_, rfl⟩
  have D1 := Lib.hid d1
  have D2 := Lib.hid d2
  have D3 := Lib.hid d3
  have HLT := Lib.hid hlt
  have HN := Lib.hid hn
  have hpl := pairsC_le xs
  have hl60 : n ≤ 60 := by omega
  have HPL : Hid (pairsC xs ≤ 3600) := Lib.hid (by
    have : xs.length * xs.length ≤ 60 * 60 := Nat.mul_le_mul (by omega) (by omega)
    omega)
  clear d1 d2 d3 hl hlt hxs hn hpl
  have p0_0' : (w.alloc (.cells #[.int .i64 (p : Int), .int .i64 (s : Int)] 23)).cell? ⟨w.heap.size, 0, none⟩ = some (.int .i64 (p : Int)) := by go_simp
  have q0_0' : (w.alloc (.cells #[.int .i64 (p : Int), .int .i64 (s : Int)] 23)).cell? ⟨w.heap.size, 1, none⟩ = some (.int .i64 (s : Int)) := by go_simp
  have p0_0 := Lib.hid p0_0'
  have q0_0 := Lib.hid q0_0'
  clear p0_0' q0_0'
  go_enter Try.func7, Try.ntmps7
  go_wp2_with fail
  refine (D1.out _).mono ?_
  rintro e w1 ⟨vc, rfl, kc_1, hb1⟩
  have n1 : w.heap.size + 1 ≤ w1.heap.size := by have := hb1.size; simp at this; omega
  have B1 : Below w.heap.size w w1 := Below.trans (by go_grown) (hb1.mono (by first | (simp; done) | (simp; omega)))
  have p0_1 := cellB hb1 p0_0.out
  have q0_1 := cellB hb1 q0_0.out
  go_wp2_with fail
  refine (D2.out _).mono ?_
  rintro e w2 ⟨vd, rfl, kd_2, hb2⟩
  have n2 := hb2.size
  have B2 := B1.trans (hb2.mono (by omega))
  have p0_2 := cellB hb2 p0_1
  have q0_2 := cellB hb2 q0_1
  clear p0_1 q0_1
  have kc_2 := kc_1.keep (belowSame hb2 (by omega))
  obtain ⟨a1, c1, g1, rfl, ha1, hm1, hx1, hy1⟩ := kc_2.1.view
  obtain ⟨a2, c2, g2, rfl, ha2, hm2, hx2, hy2⟩ := kd_2.1.view
  rw [HN.out] at ha1 hm1 hx1 hy1 ha2 hm2 hx2 hy2 ⊢
  have hc1 : n ≤ c1 := by
    rcases kc_2.1.2 with ⟨hv, _⟩ | ⟨_, _, _, hv, _, _, hnc, _⟩
    · have hnn := HN.out
      simp at hv; omega
    · have hnn := HN.out
      simp at hv; omega
  have X1 := Lib.hid hx1
  have Y1 := Lib.hid hy1
  have X2 := Lib.hid hx2
  have Y2 := Lib.hid hy2
  have HA1 := Lib.hid ha1
  have HA2 := Lib.hid ha2
  have HP2 := Lib.hid p0_2
  have HQ2 := Lib.hid q0_2
  have HB2 := Lib.hid B2
  unfold maxLen at hm1
  clear hx1 hy1 hx2 hy2 ha1 ha2 hm2 kc_2 kd_2
  go_wp2
  go_loopw [7, 39] (fun m i wr => ∃ k : Nat, k ≤ n ∧ i = .int .i64 k ∧ m = .int .i64 ((pairsC (xs.take k) : Nat) : Int) ∧ Below w2.heap.size w2 wr) (fun _ i _ => n - (intOf i).toNat)
  case atStart => exact ⟨0, by omega, rfl, by simp [pairsC], Below.refl _ _⟩
  case round =>
    obtain ⟨k, hk, rfl, hmv, hB⟩ := hrel
    have hz := hB.size
    by_cases hlt : k < n
    · obtain rfl := HA1.out (by omega)
      obtain rfl := HA2.out (by omega)
      have e1 := cellB hB (X1.out k hlt)
      have e2 := cellB hB (Y1.out k hlt)
      have e3 := cellB hB (X2.out k hlt)
      have e4 := cellB hB (Y2.out k hlt)
      have hab := HLT.out k (by rw [HN.out]; exact hlt)
      have HT := Lib.hid (pairsC_take xs k (by rw [HN.out]; exact hlt))
      obtain ⟨a, ha⟩ : ∃ a, (xs.getD k (0, 0)).1 = a := ⟨_, rfl⟩
      obtain ⟨b, hb⟩ : ∃ b, (xs.getD k (0, 0)).2 = b := ⟨_, rfl⟩
      have hgd : xs.getD k (0, 0) = (a, b) := by rw [← ha, ← hb]
      rw [ha] at e1 e3 hab
      rw [hb] at e2 e4 hab
      have HGD := Lib.hid hgd
      obtain ⟨M0, hM0⟩ : ∃ M, pairsC (xs.take k) = M := ⟨_, rfl⟩
      have HM0 := Lib.hid hM0
      rw [hM0] at hmv
      subst hmv
      have hM0b : M0 ≤ 3600 := by
        rw [← hM0]
        have h1 := pairsC_le (xs.take k)
        have h2 : (xs.take k).length ≤ 60 := by rw [List.length_take]; omega
        have h3 : (xs.take k).length * (xs.take k).length ≤ 60 * 60 := Nat.mul_le_mul h2 h2
        omega
      obtain ⟨wo, rfl⟩ : ∃ z, z = wr := ⟨wr, rfl⟩
      have HBO := Lib.hid hB
      have v0 : 0 ≤ (k : Int) := by omega
      have v1 : (k : Int) < (n : Int) := by omega
      have v2 : (k : Int) ≤ (n : Int) := by omega
      have v3 : (k : Int) ≤ (c1 : Int) := by omega
      clear ha hb hgd hM0 hB
      go_wp2
      go_region_held3 (fun w' => w'.cell? ⟨wo.heap.size, 0, none⟩ = some (.int .i64 a) ∧ w'.cell? ⟨wo.heap.size, 1, none⟩ = some (.int .i64 b) ∧ w'.cell? ⟨g2, k * 2, none⟩ = some (.int .i64 a) ∧ w'.cell? ⟨g2, k * 2 + 1, none⟩ = some (.int .i64 b)) (go_keep) (fail)
      go_wp2
      go_loopw [7, 54] (fun m i wr => ∃ t : Nat, t ≤ k ∧ i = .int .i64 t ∧ m = .int .i64 ((M0 + cntC (a, b) (xs.take t) : Nat) : Int) ∧ wr.cell? ⟨wo.heap.size, 0, none⟩ = some (.int .i64 a) ∧ wr.cell? ⟨wo.heap.size, 1, none⟩ = some (.int .i64 b) ∧ Below wo.heap.size wo wr) (fun _ i _ => k - (intOf i).toNat)
      case atStart => exact ⟨0, by omega, rfl, by simp [cntC], by go_simp, by go_simp, by go_grown⟩
      case round =>
        obtain ⟨t, ht, rfl, hmt, ca, cb, hBt⟩ := hrel
        have hzt := hBt.size
        by_cases hltt : t < k
        · have hw2 := HBO.out.trans (hBt.mono HBO.out.size)
          have f1 := cellB hw2 (X1.out t (by omega))
          have f2 := cellB hw2 (Y1.out t (by omega))
          have hxy := HLT.out t (by rw [HN.out]; omega)
          have hct := cntC_take (a, b) xs t (by rw [HN.out]; omega)
          have hcl := cntC_le (a, b) (xs.take t)
          obtain ⟨x, hx⟩ : ∃ x, (xs.getD t (0, 0)).1 = x := ⟨_, rfl⟩
          obtain ⟨y, hy⟩ : ∃ y, (xs.getD t (0, 0)).2 = y := ⟨_, rfl⟩
          have hgt : xs.getD t (0, 0) = (x, y) := by rw [← hx, ← hy]
          rw [hx] at f1 hxy
          rw [hy] at f2 hxy
          rw [hgt] at hct
          rw [List.length_take] at hcl
          obtain ⟨C, hC⟩ : ∃ C, cntC (a, b) (xs.take t) = C := ⟨_, rfl⟩
          rw [hC] at hmt hct hcl
          obtain ⟨M, hM⟩ : ∃ M, M0 + C = M := ⟨_, rfl⟩
          rw [hM] at hmt
          subst hmt
          have hMb : M ≤ 4000 := by omega
          have HCT := Lib.hid hct
          have HMM := Lib.hid hM
          obtain ⟨M1, hM1⟩ : ∃ M1, M + 1 = M1 := ⟨_, rfl⟩
          have HM1 := Lib.hid hM1
          have hwM : IntKind.i64.wrap ((M : Int) + 1) = (M1 : Int) := by rw [IntKind.wrap_i64]; omega
          have t0 : 0 ≤ (t : Int) := by omega
          have t1 : (t : Int) < (k : Int) := by omega
          have q0 := cellB ((Below.refl wr.heap.size wr).alloc (Nat.le_refl _) (.cells #[Value.int .i64 x, Value.int .i64 y] 61)) ca
          have q1 := cellB ((Below.refl wr.heap.size wr).alloc (Nat.le_refl _) (.cells #[Value.int .i64 x, Value.int .i64 y] 61)) cb
          have hcases : (x < a ∧ y < a) ∨ (x < a ∧ y = a) ∨ (x < a ∧ (a < y ∧ y < b)) ∨ (x < a ∧ y = b) ∨ (x < a ∧ b < y) ∨ (x = a ∧ (a < y ∧ y < b)) ∨ (x = a ∧ y = b) ∨ (x = a ∧ b < y) ∨ ((a < x ∧ x < b) ∧ (a < y ∧ y < b)) ∨ ((a < x ∧ x < b) ∧ y = b) ∨ ((a < x ∧ x < b) ∧ b < y) ∨ (x = b ∧ b < y) ∨ (b < x ∧ b < y) := by omega
          clear hx hy hgt hC hM hM1 hct hcl hw2
          rcases hcases with hcase | hcase | hcase | hcase | hcase | hcase | hcase | hcase | hcase | hcase | hcase | hcase | hcase
          · have z0 : ¬ a < x := by omega
            have z1 : x < b := by omega
            have z2 : ¬ x = a := by omega
            have z3 : ¬ x = b := by omega
            have z4 : ¬ a < y := by omega
            have z5 : y < b := by omega
            have z6 : ¬ y = a := by omega
            have z7 : ¬ y = b := by omega
            have HCR : Hid (crossP (a, b) (x, y) = false) := Lib.hid (by unfold crossP crossB; exact decide_eq_false (by omega))
            clear hcase
            go_wp2
            go_roundw
            case rel => exact ⟨t + 1, by omega, by go_num, by rw [HCT.out, HCR.out, ← Nat.add_assoc, HMM.out]; rfl, cellB ((Below.refl _ _).alloc (Nat.le_refl _) _) ca, cellB ((Below.refl _ _).alloc (Nat.le_refl _) _) cb, hBt.alloc hzt _⟩
            case measure => simp [intOf]; omega
          · have z0 : ¬ a < x := by omega
            have z1 : x < b := by omega
            have z2 : ¬ x = a := by omega
            have z3 : ¬ x = b := by omega
            have z4 : ¬ a < y := by omega
            have z5 : y < b := by omega
            have z6 : y = a := by omega
            have z7 : ¬ y = b := by omega
            have HCR : Hid (crossP (a, b) (x, y) = false) := Lib.hid (by unfold crossP crossB; exact decide_eq_false (by omega))
            clear hcase
            rw [z6] at q0 q1
            go_wp2
            go_roundw
            case rel => exact ⟨t + 1, by omega, by go_num, by rw [HCT.out, HCR.out, ← Nat.add_assoc, HMM.out]; rfl, cellB ((Below.refl _ _).alloc (Nat.le_refl _) _) ca, cellB ((Below.refl _ _).alloc (Nat.le_refl _) _) cb, hBt.alloc hzt _⟩
            case measure => simp [intOf]; omega
          · have z0 : ¬ a < x := by omega
            have z1 : x < b := by omega
            have z2 : ¬ x = a := by omega
            have z3 : ¬ x = b := by omega
            have z4 : a < y := by omega
            have z5 : y < b := by omega
            have z6 : ¬ y = a := by omega
            have z7 : ¬ y = b := by omega
            have HCR : Hid (crossP (a, b) (x, y) = true) := Lib.hid (by unfold crossP crossB; exact decide_eq_true (by omega))
            clear hcase
            go_wp2
            go_roundw
            case rel => exact ⟨t + 1, by omega, by go_num, by rw [HCT.out, HCR.out, ← Nat.add_assoc, HMM.out]; rw [← HM1.out]; rfl, cellB ((Below.refl _ _).alloc (Nat.le_refl _) _) ca, cellB ((Below.refl _ _).alloc (Nat.le_refl _) _) cb, hBt.alloc hzt _⟩
            case measure => simp [intOf]; omega
            case roundEnd => exfalso; rename_i hh; rcases hh with ((hh | hh) | hh) | hh <;> simp at hh <;> omega
          · have z0 : ¬ a < x := by omega
            have z1 : x < b := by omega
            have z2 : ¬ x = a := by omega
            have z3 : ¬ x = b := by omega
            have z4 : a < y := by omega
            have z5 : ¬ y < b := by omega
            have z6 : ¬ y = a := by omega
            have z7 : y = b := by omega
            have HCR : Hid (crossP (a, b) (x, y) = false) := Lib.hid (by unfold crossP crossB; exact decide_eq_false (by omega))
            clear hcase
            rw [z7] at q0 q1
            go_wp2
            go_roundw
            case rel => exact ⟨t + 1, by omega, by go_num, by rw [HCT.out, HCR.out, ← Nat.add_assoc, HMM.out]; rfl, cellB ((Below.refl _ _).alloc (Nat.le_refl _) _) ca, cellB ((Below.refl _ _).alloc (Nat.le_refl _) _) cb, hBt.alloc hzt _⟩
            case measure => simp [intOf]; omega
          · have z0 : ¬ a < x := by omega
            have z1 : x < b := by omega
            have z2 : ¬ x = a := by omega
            have z3 : ¬ x = b := by omega
            have z4 : a < y := by omega
            have z5 : ¬ y < b := by omega
            have z6 : ¬ y = a := by omega
            have z7 : ¬ y = b := by omega
            have HCR : Hid (crossP (a, b) (x, y) = false) := Lib.hid (by unfold crossP crossB; exact decide_eq_false (by omega))
            clear hcase
            go_wp2
            go_roundw
            case rel => exact ⟨t + 1, by omega, by go_num, by rw [HCT.out, HCR.out, ← Nat.add_assoc, HMM.out]; rfl, cellB ((Below.refl _ _).alloc (Nat.le_refl _) _) ca, cellB ((Below.refl _ _).alloc (Nat.le_refl _) _) cb, hBt.alloc hzt _⟩
            case measure => simp [intOf]; omega
          · have z0 : ¬ a < x := by omega
            have z1 : x < b := by omega
            have z2 : x = a := by omega
            have z3 : ¬ x = b := by omega
            have z4 : a < y := by omega
            have z5 : y < b := by omega
            have z6 : ¬ y = a := by omega
            have z7 : ¬ y = b := by omega
            have HCR : Hid (crossP (a, b) (x, y) = false) := Lib.hid (by unfold crossP crossB; exact decide_eq_false (by omega))
            clear hcase
            rw [z2] at q0 q1
            go_wp2
            go_roundw
            case rel => exact ⟨t + 1, by omega, by go_num, by rw [HCT.out, HCR.out, ← Nat.add_assoc, HMM.out]; rfl, cellB ((Below.refl _ _).alloc (Nat.le_refl _) _) ca, cellB ((Below.refl _ _).alloc (Nat.le_refl _) _) cb, hBt.alloc hzt _⟩
            case measure => simp [intOf]; omega
          · have z0 : ¬ a < x := by omega
            have z1 : x < b := by omega
            have z2 : x = a := by omega
            have z3 : ¬ x = b := by omega
            have z4 : a < y := by omega
            have z5 : ¬ y < b := by omega
            have z6 : ¬ y = a := by omega
            have z7 : y = b := by omega
            have HCR : Hid (crossP (a, b) (x, y) = false) := Lib.hid (by unfold crossP crossB; exact decide_eq_false (by omega))
            clear hcase
            rw [z2] at q0 q1
            rw [z7] at q0 q1
            go_wp2
            go_roundw
            case rel => exact ⟨t + 1, by omega, by go_num, by rw [HCT.out, HCR.out, ← Nat.add_assoc, HMM.out]; rfl, cellB ((Below.refl _ _).alloc (Nat.le_refl _) _) ca, cellB ((Below.refl _ _).alloc (Nat.le_refl _) _) cb, hBt.alloc hzt _⟩
            case measure => simp [intOf]; omega
          · have z0 : ¬ a < x := by omega
            have z1 : x < b := by omega
            have z2 : x = a := by omega
            have z3 : ¬ x = b := by omega
            have z4 : a < y := by omega
            have z5 : ¬ y < b := by omega
            have z6 : ¬ y = a := by omega
            have z7 : ¬ y = b := by omega
            have HCR : Hid (crossP (a, b) (x, y) = false) := Lib.hid (by unfold crossP crossB; exact decide_eq_false (by omega))
            clear hcase
            rw [z2] at q0 q1
            go_wp2
            go_roundw
            case rel => exact ⟨t + 1, by omega, by go_num, by rw [HCT.out, HCR.out, ← Nat.add_assoc, HMM.out]; rfl, cellB ((Below.refl _ _).alloc (Nat.le_refl _) _) ca, cellB ((Below.refl _ _).alloc (Nat.le_refl _) _) cb, hBt.alloc hzt _⟩
            case measure => simp [intOf]; omega
          · have z0 : a < x := by omega
            have z1 : x < b := by omega
            have z2 : ¬ x = a := by omega
            have z3 : ¬ x = b := by omega
            have z4 : a < y := by omega
            have z5 : y < b := by omega
            have z6 : ¬ y = a := by omega
            have z7 : ¬ y = b := by omega
            have HCR : Hid (crossP (a, b) (x, y) = false) := Lib.hid (by unfold crossP crossB; exact decide_eq_false (by omega))
            clear hcase
            go_wp2
            go_roundw
            case rel => exact ⟨t + 1, by omega, by go_num, by rw [HCT.out, HCR.out, ← Nat.add_assoc, HMM.out]; rfl, cellB ((Below.refl _ _).alloc (Nat.le_refl _) _) ca, cellB ((Below.refl _ _).alloc (Nat.le_refl _) _) cb, hBt.alloc hzt _⟩
            case measure => simp [intOf]; omega
          · have z0 : a < x := by omega
            have z1 : x < b := by omega
            have z2 : ¬ x = a := by omega
            have z3 : ¬ x = b := by omega
            have z4 : a < y := by omega
            have z5 : ¬ y < b := by omega
            have z6 : ¬ y = a := by omega
            have z7 : y = b := by omega
            have HCR : Hid (crossP (a, b) (x, y) = false) := Lib.hid (by unfold crossP crossB; exact decide_eq_false (by omega))
            clear hcase
            rw [z7] at q0 q1
            go_wp2
            go_roundw
            case rel => exact ⟨t + 1, by omega, by go_num, by rw [HCT.out, HCR.out, ← Nat.add_assoc, HMM.out]; rfl, cellB ((Below.refl _ _).alloc (Nat.le_refl _) _) ca, cellB ((Below.refl _ _).alloc (Nat.le_refl _) _) cb, hBt.alloc hzt _⟩
            case measure => simp [intOf]; omega
          · have z0 : a < x := by omega
            have z1 : x < b := by omega
            have z2 : ¬ x = a := by omega
            have z3 : ¬ x = b := by omega
            have z4 : a < y := by omega
            have z5 : ¬ y < b := by omega
            have z6 : ¬ y = a := by omega
            have z7 : ¬ y = b := by omega
            have HCR : Hid (crossP (a, b) (x, y) = true) := Lib.hid (by unfold crossP crossB; exact decide_eq_true (by omega))
            clear hcase
            go_wp2
            go_roundw
            case rel => exact ⟨t + 1, by omega, by go_num, by rw [HCT.out, HCR.out, ← Nat.add_assoc, HMM.out]; rw [← HM1.out]; rfl, cellB ((Below.refl _ _).alloc (Nat.le_refl _) _) ca, cellB ((Below.refl _ _).alloc (Nat.le_refl _) _) cb, hBt.alloc hzt _⟩
            case measure => simp [intOf]; omega
            case roundEnd => exfalso; rename_i hh; rcases hh with ((hh | hh) | hh) | hh <;> simp at hh <;> omega
          · have z0 : a < x := by omega
            have z1 : ¬ x < b := by omega
            have z2 : ¬ x = a := by omega
            have z3 : x = b := by omega
            have z4 : a < y := by omega
            have z5 : ¬ y < b := by omega
            have z6 : ¬ y = a := by omega
            have z7 : ¬ y = b := by omega
            have HCR : Hid (crossP (a, b) (x, y) = false) := Lib.hid (by unfold crossP crossB; exact decide_eq_false (by omega))
            clear hcase
            rw [z3] at q0 q1
            go_wp2
            go_roundw
            case rel => exact ⟨t + 1, by omega, by go_num, by rw [HCT.out, HCR.out, ← Nat.add_assoc, HMM.out]; rfl, cellB ((Below.refl _ _).alloc (Nat.le_refl _) _) ca, cellB ((Below.refl _ _).alloc (Nat.le_refl _) _) cb, hBt.alloc hzt _⟩
            case measure => simp [intOf]; omega
          · have z0 : a < x := by omega
            have z1 : ¬ x < b := by omega
            have z2 : ¬ x = a := by omega
            have z3 : ¬ x = b := by omega
            have z4 : a < y := by omega
            have z5 : ¬ y < b := by omega
            have z6 : ¬ y = a := by omega
            have z7 : ¬ y = b := by omega
            have HCR : Hid (crossP (a, b) (x, y) = false) := Lib.hid (by unfold crossP crossB; exact decide_eq_false (by omega))
            clear hcase
            go_wp2
            go_roundw
            case rel => exact ⟨t + 1, by omega, by go_num, by rw [HCT.out, HCR.out, ← Nat.add_assoc, HMM.out]; rfl, cellB ((Below.refl _ _).alloc (Nat.le_refl _) _) ca, cellB ((Below.refl _ _).alloc (Nat.le_refl _) _) cb, hBt.alloc hzt _⟩
            case measure => simp [intOf]; omega
        · obtain rfl : t = k := by omega
          subst hmt
          have HBT := Lib.hid hBt
          have HE : Hid (M0 + cntC (a, b) (xs.take t) = pairsC (xs.take (t + 1))) := Lib.hid (by rw [HT.out, HGD.out, HM0.out])
          rw [HE.out]
          clear hltt hBt
          go_wp2
          go_roundw
          case rel => exact ⟨t + 1, by omega, by go_num, rfl, HBO.out.trans (HBT.out.mono HBO.out.size)⟩
          case measure => simp [intOf]; omega
    · obtain rfl : k = n := by omega
      subst hmv
      have HE : Hid (xs.take k = xs) := Lib.hid (List.take_of_length_le (by rw [HN.out]; omega))
      rw [HE.out]
      obtain ⟨M, hM⟩ : ∃ M, pairsC xs = M := ⟨_, rfl⟩
      have HM := Lib.hid hM
      rw [hM]
      have r0 := cellB hB HP2.out
      have r1 := cellB hB HQ2.out
      clear hM
      go_wp2_with (go_at_call 36; (refine (D3.out _).mono ?_); rw [HM.out]; rintro e w4 ⟨rfl, hb4⟩; (have hB4 := hB.trans (hb4.mono hz)))
      go_ret
      exact ⟨rfl, HB2.out.trans (hB4.mono (by omega))⟩

set_option maxHeartbeats 1000000 in
theorem not_CrossingsTold (p s : Int) (w : World) (h : ¬ (3 ≤ p ∧ p ≤ 60 ∧ 1 ≤ s ∧ s < p)) :
    Calls Try.prog 7 #[.agg #[.int .i64 p, .int .i64 s]] w fun e w' => e = .returned (.bool true) ∧ Below w.heap.size w w' := by
  have D1 := Lib.hid (fun W => iChordsOf_no p s W h)
  have D2 := Lib.hid (fun W => sChordsOf_no p s W h)
  clear h
  have p0_0' : (w.alloc (.cells #[.int .i64 p, .int .i64 s] 23)).cell? ⟨w.heap.size, 0, none⟩ = some (.int .i64 p) := by go_simp
  have q0_0' : (w.alloc (.cells #[.int .i64 p, .int .i64 s] 23)).cell? ⟨w.heap.size, 1, none⟩ = some (.int .i64 s) := by go_simp
  have p0_0 := Lib.hid p0_0'
  have q0_0 := Lib.hid q0_0'
  clear p0_0' q0_0'
  go_enter Try.func7, Try.ntmps7
  go_wp2_with fail
  refine (D1.out _).mono ?_
  rintro e w1 ⟨vc, rfl, kc_1, hb1⟩
  have n1 : w.heap.size + 1 ≤ w1.heap.size := by have := hb1.size; simp at this; omega
  have B1 : Below w.heap.size w w1 := Below.trans (by go_grown) (hb1.mono (by first | (simp; done) | (simp; omega)))
  have p0_1 := cellB hb1 p0_0.out
  have q0_1 := cellB hb1 q0_0.out
  go_wp2_with fail
  refine (D2.out _).mono ?_
  rintro e w2 ⟨vd, rfl, kd_2, hb2⟩
  have n2 := hb2.size
  have B2 := B1.trans (hb2.mono (by omega))
  have p0_2 := cellB hb2 p0_1
  have q0_2 := cellB hb2 q0_1
  clear p0_1 q0_1
  have kc_2 := kc_1.keep (belowSame hb2 (by omega))
  obtain ⟨a1, c1, g1, rfl, _⟩ := kc_2.1.view
  obtain ⟨a2, c2, g2, rfl, _⟩ := kd_2.1.view
  go_wp2
  go_ret
  exact ⟨rfl, B2⟩

theorem walk_FnCrossingsTold (p s : Int) (w : World) (_ : (Lit.int .i64 p).wf = true) (_ : (Lit.int .i64 s).wf = true) :
    Calls Try.prog 7 #[.agg #[.int .i64 p, .int .i64 s]] w fun e w' => e = .returned (.bool true) ∧ Below w.heap.size w w' := by
  by_cases h : 3 ≤ p ∧ p ≤ 60 ∧ 1 ≤ s ∧ s < p
  · obtain ⟨p, rfl⟩ := Int.eq_ofNat_of_zero_le (show 0 ≤ p by omega)
    obtain ⟨s, rfl⟩ := Int.eq_ofNat_of_zero_le (show 0 ≤ s by omega)
    exact core_CrossingsTold p s w (by omega)
  · exact not_CrossingsTold p s w h
end Go.Proofs.Ytlkehdjfmmghjab
