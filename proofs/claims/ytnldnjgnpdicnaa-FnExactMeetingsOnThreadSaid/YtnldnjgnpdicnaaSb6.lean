/- slices.symMergeCmpFunc at ints: one element on the right, many on both sides. -/
import Derived.Test.YtnldnjgnpdicnaaSb5
namespace Go.Proofs.Ytnldnjgnpdicnaa
open Go.RowKit
set_option linter.unusedVariables false

set_option maxHeartbeats 8000000 in
set_option maxRecDepth 100000 in
theorem symMerge_last {M : List Int} {L : Int → Int → Bool} {cf : Int → Int → Int} (O : OrdS M L cf) (B g n cap a m b : Nat) (P X S : List Int) (x : Int) (p q : Addr) (W0 w : World) (hC : CmpC g W0 M cf p q) (hn : n ≤ 1000) (hW : Only g (g + 1) W0 w)
    (h : RowS w B g n cap (P ++ X ++ [x] ++ S)) (hM : MergeS M L P X [x] S a m b n) (ham : a + 1 < m) :
    Calls Try.prog 146 #[(.slice (some ⟨g, 0, none⟩) n cap), .int .i64 (a : Int), .int .i64 (m : Int), .int .i64 (b : Int), (.func (.func 68) #[] #[.pointer (some p), .pointer (some q)])] w fun e w' => e = .returned (.tuple #[]) ∧ (∃ Z, RowS w' B g n cap (P ++ Z ++ S) ∧ Z.Perm (X ++ [x]) ∧ SortS L Z) ∧ Only g (g + 1) w w' := by
  have e2 := hM.hX
  have e3 := hM.hY
  have e4 := hM.bn
  have HP := Lib.hid hM.hP
  simp only [List.length_singleton] at e3
  obtain ⟨e0, hf, hmo, hfin⟩ := hM.oneR O
  rw [e0] at h hf
  generalize (fun k => !L x (X.getD (k - a) 0)) = c0 at hf hmo hfin
  obtain ⟨lx, hlx⟩ : ∃ l, X.length = l := ⟨_, rfl⟩
  rw [hlx] at e2 h hf
  have H := Lib.hid h
  have HF := Lib.hid hf
  have HMO := Lib.hid hmo
  have HFIN := Lib.hid hfin
  have HC := Lib.hid hC
  have HLX := Lib.hid hlx
  obtain ⟨d1, hd1⟩ : ∃ d, a + d = m := ⟨m - a, by omega⟩
  have hw1 : IntKind.i64.wrap ((m : Int) - (a : Int)) = (d1 : Int) := by rw [IntKind.wrap_i64]; omega
  have hw2 : IntKind.i64.wrap ((b : Int) - (m : Int)) = 1 := by rw [IntKind.wrap_i64]; omega
  have hd2 : ((d1 : Int) == 1) = false := beq_eq_false_iff_ne.2 (by omega)
  have hd3 : ¬ (d1 : Int) = 1 := by omega
  clear h hf hmo hfin hC hM e0 hlx
  go_enter Try.func146, Try.ntmps146
  go_wp2
  go_loopw [14, 15] (fun vi vj wr => ∃ i j : Nat, a ≤ i ∧ i ≤ j ∧ j ≤ m ∧ vi = .int .i64 (i : Int) ∧ vj = .int .i64 (j : Int) ∧ Hid (BS c0 a m i j) ∧ Hid (RowS wr B g n cap (ShA P X S x lx)) ∧ Only g (g + 1) w wr) (fun vi vj _ => (intOf vj).toNat - (intOf vi).toNat)
  case atStart => exact ⟨a, m, Nat.le_refl _, by omega, Nat.le_refl _, rfl, rfl, Lib.hid (BS.start _ _ _), H, Only.refl _ _ _⟩
  case round =>
    obtain ⟨i, j, hi1, hi2, hi3, rfl, rfl, HB, HR, hO⟩ := hrel
    obtain ⟨wo, rfl⟩ : ∃ q, q = wr := ⟨wr, rfl⟩
    by_cases hlt : i < j
    · obtain ⟨h, hh⟩ : ∃ h, h = (i + j) / 2 := ⟨_, rfl⟩
      have hmi : ((i : Int) + (j : Int)) / 2 = (h : Int) := by omega
      have hh1 : i ≤ h := by omega
      have hh2 : h < j := by omega
      obtain ⟨l1, l2, u, v, hu, hv, mu, mv, huv, hc⟩ := HF.out h (by omega) (by omega)

      have l1 : m < n := l1
      have l2 : h < n := l2
      have hu : (ShA P X S x lx).getD m 0 = u := hu
      have hv : (ShA P X S x lx).getD h 0 = v := hv
      have k1 := HR.out.cell m l1
      have k2 := HR.out.cell h l2
      rw [hu] at k1
      rw [hv] at k2
      have hag := O.agree v mv u mu huv
      have hcall := fun W h => HC.out W u v h mu mv
      obtain ⟨cv, hcv⟩ : ∃ cv, cf u v = cv := ⟨_, rfl⟩
      rw [hcv] at hag hcall
      have HCALL := Lib.hid hcall
      have x0 : (0 : Int) ≤ ((m : Nat) : Int) := by omega
      have x1 : ((m : Nat) : Int) < (n : Int) := by omega
      have y0 : (0 : Int) ≤ ((h : Nat) : Int) := by omega
      have y1 : ((h : Nat) : Int) < (n : Int) := by omega
      clear hcall hcv mu mv huv hu hv hh
      cases hL : L u v with
      | true =>
        rw [hL] at hag hc
        have hneg : cv < 0 := of_decide_eq_true hag
        have HN := Lib.hid (HB.out.no HMO.out (by omega) hc)
        clear hc hL
        go_wp2
        go_region_held3 (fun w' => w'.cell? ⟨g, m, none⟩ = some (.int .i64 u) ∧ w'.cell? ⟨g, h, none⟩ = some (.int .i64 v)) (go_keep)
          (first | (go_at_call 68; (refine (HCALL.out _ (by first | exact Only.drewN (hW.trans hO) _ | exact hW.trans hO)).mono ?_); rintro e w5 ⟨rfl, hb5⟩; have d1 := cellB hb5 k1; have d2 := cellB hb5 k2; (have hB5 : Below wo.heap.size wo w5 := by first | exact hb5 | exact (bdn (Below.refl _ _) _).trans hb5)))
        have HR5 := Lib.hid (HR.out.later hB5)
        have hO5 := hO.moreS hB5
        go_wp2
        go_roundw
        case rel => exact ⟨i, h, by omega, by omega, by omega, rfl, rfl, HN, HR5, hO5⟩
        case measure => simp [intOf]; omega
      | false =>
        rw [hL] at hag hc
        have hneg : ¬ cv < 0 := of_decide_eq_false hag
        have HN := Lib.hid (HB.out.yes HMO.out (by omega) hc)
        clear hc hL
        go_wp2
        go_region_held3 (fun w' => w'.cell? ⟨g, m, none⟩ = some (.int .i64 u) ∧ w'.cell? ⟨g, h, none⟩ = some (.int .i64 v)) (go_keep)
          (first | (go_at_call 68; (refine (HCALL.out _ (by first | exact Only.drewN (hW.trans hO) _ | exact hW.trans hO)).mono ?_); rintro e w5 ⟨rfl, hb5⟩; have d1 := cellB hb5 k1; have d2 := cellB hb5 k2; (have hB5 : Below wo.heap.size wo w5 := by first | exact hb5 | exact (bdn (Below.refl _ _) _).trans hb5)))
        have HR5 := Lib.hid (HR.out.later hB5)
        have hO5 := hO.moreS hB5
        go_wp2
        go_roundw
        case rel => exact ⟨h + 1, j, by omega, by omega, by omega, by go_num, rfl, HN, HR5, hO5⟩
        case measure => simp [intOf]; omega
    · obtain rfl : i = j := by omega
      have HZ := Lib.hid (HFIN.out i hi1 hi3 HB.out)
      obtain ⟨ti, hti⟩ : ∃ t, i - a = t := ⟨_, rfl⟩
      rw [hti] at HZ
      have f1 : a + ti = i := by omega
      have f2 : ti ≤ lx := by omega
      clear hti HFIN HF HMO HB
      go_wp2
      go_loopw [17] (fun y wr => ∃ t k : Nat, k = a + t ∧ ti ≤ t ∧ t ≤ lx ∧ y = .int .i64 (k : Int) ∧ Hid (RowS wr B g n cap (ShA P X S x t)) ∧ Only g (g + 1) w wr) (fun y _ => (intOf y).toNat)
      case atStart => exact ⟨lx, m, by omega, f2, by omega, rfl, HR, hO⟩
      case round =>
        clear HR hO
        obtain ⟨t1, kp, hkt, htt, htl, rfl, HR, hO⟩ := hrel
        by_cases hlt2 : ti < t1
        · obtain ⟨t, rfl⟩ : ∃ t, t1 = t + 1 := ⟨t1 - 1, by omega⟩
          obtain ⟨k, hk⟩ : ∃ k, kp = k + 1 := ⟨kp - 1, by omega⟩
          have HUP := Lib.hid (ShA_down P X S x t k (by rw [HLX.out]; omega) (by rw [HP.out]; omega))
          rw [← hk] at HUP
          obtain ⟨u, hu⟩ : ∃ u, (ShA P X S x (t + 1)).getD kp 0 = u := ⟨_, rfl⟩
          obtain ⟨v, hv⟩ : ∃ v, (ShA P X S x (t + 1)).getD k 0 = v := ⟨_, rfl⟩
          have k1 := HR.out.cell kp (by omega)
          have k2 := HR.out.cell k (by omega)
          rw [hu] at k1
          rw [hv] at k2
          have g1 := HR.out.frozen kp
          have g2 := HR.out.frozen k
          have HSW := Lib.hid (HR.out.swap kp k hu hv)
          have hw3 : IntKind.i64.wrap ((kp : Int) - 1) = (k : Int) := by rw [IntKind.wrap_i64]; omega
          have x0 : (0 : Int) ≤ (k : Int) := by omega
          have x1 : (k : Int) < (n : Int) := by omega
          have y0 : (0 : Int) ≤ (kp : Int) := by omega
          have y1 : (kp : Int) < (n : Int) := by omega
          have hgo : (i : Int) < (kp : Int) := by omega
          have HKI := Lib.hid (show k < kp ∧ k = a + t by omega)
          have k3 : (wr.setCell ⟨g, kp, none⟩ (.int .i64 v)).cell? ⟨g, k, none⟩ = some (.int .i64 v) := (World.cell?_setCell_other _ _ _ _ (by intro e'; simp only [Addr.mk.injEq] at e'; omega)).trans k2
          have mixed : Try.prog.follows Departure.mixedOrders = true := by kernel_rfl
          clear hu hv hkt hk
          go_wp2
          go_big_region_o
          go_wp2
          go_roundw
          case rel => exact ⟨t, k, HKI.out.2, by omega, by omega, by go_num, Lib.hid (by rw [← HUP.out]; exact HSW.out.1), hO.trans HSW.out.2⟩
          case measure => have := HKI.out; simp [intOf]; omega
        · obtain rfl : t1 = ti := by omega
          have hgo : ¬ (i : Int) < (kp : Int) := by omega
          obtain ⟨Z, z1, z2, z3⟩ := HZ.out
          have hrz := HR.out
          rw [z1] at hrz
          have HRZ := Lib.hid hrz
          have HZ2 := Lib.hid z2
          have HZ3 := Lib.hid z3
          clear hrz z1 z2 z3 HZ HR
          go_wp2
          (try simp only [Exit.inBlock, Exit.then]); refine bodyPost_ret (results_none rfl _ _ _) rfl ?_
          exact ⟨rfl, ⟨Z, by simpa only [List.append_assoc] using HRZ.out, HZ2.out, HZ3.out⟩, hO⟩

end Go.Proofs.Ytnldnjgnpdicnaa
