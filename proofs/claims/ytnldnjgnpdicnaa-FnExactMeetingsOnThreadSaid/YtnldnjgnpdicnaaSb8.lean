/- slices.symMergeCmpFunc at ints: many elements on both sides, the middle behind m. -/
import Derived.Test.YtnldnjgnpdicnaaSb6
namespace Go.Proofs.Ytnldnjgnpdicnaa
open Go.RowKit
set_option linter.unusedVariables false

set_option maxHeartbeats 16000000 in
set_option maxRecDepth 100000 in
theorem symMerge_lo {M : List Int} {L : Int → Int → Bool} {cf : Int → Int → Int} (O : OrdS M L cf) (B g n cap a m b sz : Nat) (P X Y S : List Int) (p q : Addr) (W0 w : World) (hC : CmpC g W0 M cf p q) (ih : SymC B g n cap M L p q W0 sz) (hn : n ≤ 1000) (hsz : b ≤ a + (sz + 1)) (hW : Only g (g + 1) W0 w)
    (h : RowS w B g n cap (P ++ X ++ Y ++ S)) (hM : MergeS M L P X Y S a m b n) (ham : a + 1 < m) (hmb : m + 1 < b) (hmid0 : m ≤ (a + b) / 2) :
    Calls Try.prog 146 #[(.slice (some ⟨g, 0, none⟩) n cap), .int .i64 (a : Int), .int .i64 (m : Int), .int .i64 (b : Int), (.func (.func 68) #[] #[.pointer (some p), .pointer (some q)])] w fun e w' => e = .returned (.tuple #[]) ∧ (∃ Z, RowS w' B g n cap (P ++ Z ++ S) ∧ Z.Perm (X ++ Y) ∧ SortS L Z) ∧ Only g (g + 1) w w' := by
  unfold SymC at ih
  have HIH := Lib.hid ih
  have e4 := hM.bn
  obtain ⟨mid, hmid⟩ : ∃ mid, mid = (a + b) / 2 := ⟨_, rfl⟩
  have hmi0 : ((a : Int) + (b : Int)) / 2 = (mid : Int) := by omega
  obtain ⟨np, hnp1, hnp2⟩ : ∃ np, np ≤ mid + m ∧ mid + m ≤ np := ⟨_, Nat.le_refl _, Nat.le_refl _⟩
  have hw7 : IntKind.i64.wrap ((mid : Int) + (m : Int)) = (np : Int) := by rw [IntKind.wrap_i64]; omega
  obtain ⟨pp, hpp1, hpp2⟩ : ∃ pp, pp + 1 ≤ np ∧ np ≤ pp + 1 := ⟨np - 1, by omega, by omega⟩
  have hw6 : IntKind.i64.wrap ((np : Int) - 1) = (pp : Int) := by rw [IntKind.wrap_i64]; omega
  have g0 : ¬ (mid : Int) < (m : Int) := by omega
  have hside : (mid < m ∧ a + b = mid + m ∧ m = mid) ∨ (m ≤ mid ∧ a = a ∧ m = m) := .inr ⟨by omega, rfl, rfl⟩
  have hp1 : pp + 1 = mid + m := by omega
  obtain ⟨hf, hmo, b1, b2, b3, b4⟩ := hM.many O (by omega) (by omega) hmid hp1 hside
  have halv : ∀ st en, a ≤ st → st ≤ m → en + st = mid + m → BS (fun k => !L (Y.getD (pp - k - m) 0) (X.getD (k - a) 0)) a m st st → ∃ X1 X2 Y1 Y2 : List Int, HalfS L X Y a b mid st en X1 X2 Y1 Y2 ∧ RotL (P ++ X ++ Y ++ S) m (m - st) (en - m) (P ++ X1 ++ Y1 ++ X2 ++ Y2 ++ S) ∧ (st = m ∨ en = m → P ++ X ++ Y ++ S = P ++ X1 ++ Y1 ++ X2 ++ Y2 ++ S) ∧ m ≤ en ∧ en ≤ b ∧ a ≤ st ∧ st ≤ m ∧ st ≤ mid ∧ mid ≤ en := by
    intro st en h1 h2 h3 h4
    obtain ⟨X1, X2, Y1, Y2, x1, x2, x3, x4, x5, x6, x7, x8, x9, y1, y2, y3, y4, y5, y6, y7, y8⟩ := hM.halves O (by omega) (by omega) hmid hp1 hside h1 h2 h3 h4
    exact ⟨X1, X2, Y1, Y2, ⟨x1, x2, x3, x4, x5, x6, y1, y2⟩, x8, x9, y3, y4, y5, y6, y7, y8⟩
  generalize (fun k => !L (Y.getD (pp - k - m) 0) (X.getD (k - a) 0)) = c0 at hf hmo halv
  have HALV := Lib.hid halv
  have H := Lib.hid h
  have HF := Lib.hid hf
  have HMO := Lib.hid hmo
  have HC := Lib.hid hC
  have HMM := Lib.hid hM
  obtain ⟨d1, hd1⟩ : ∃ d, a + d = m := ⟨m - a, by omega⟩
  obtain ⟨d2, hd2⟩ : ∃ d, m + d = b := ⟨b - m, by omega⟩
  have hw1 : IntKind.i64.wrap ((m : Int) - (a : Int)) = (d1 : Int) := by rw [IntKind.wrap_i64]; omega
  have hw2 : IntKind.i64.wrap ((b : Int) - (m : Int)) = (d2 : Int) := by rw [IntKind.wrap_i64]; omega
  have hd3 : ¬ (d1 : Int) = 1 := by omega
  have hd4 : ¬ (d2 : Int) = 1 := by omega
  have hd5 : ((d1 : Int) == 1) = false := beq_eq_false_iff_ne.2 hd3
  have hd6 : ((d2 : Int) == 1) = false := beq_eq_false_iff_ne.2 hd4
  have hmb2 : a < mid ∧ mid < b := by omega
  clear h hf hmo hC hM halv ih hside hmid hmid0 hd1 hd2
  go_enter Try.func146, Try.ntmps146
  go_wp2
  go_loopw [20, 21] (fun vi vj wr => ∃ i j : Nat, a ≤ i ∧ i ≤ j ∧ j ≤ m ∧ vi = .int .i64 (i : Int) ∧ vj = .int .i64 (j : Int) ∧ Hid (BS c0 a m i j) ∧ Hid (RowS wr B g n cap (P ++ X ++ Y ++ S)) ∧ Only g (g + 1) w wr) (fun vi vj _ => (intOf vj).toNat - (intOf vi).toNat)
  case atStart => exact ⟨a, m, Nat.le_refl _, by omega, Nat.le_refl _, rfl, rfl, Lib.hid (BS.start _ _ _), H, Only.refl _ _ _⟩
  case round =>
    obtain ⟨i, j, hi1, hi2, hi3, rfl, rfl, HB, HR, hO⟩ := hrel
    obtain ⟨wo, rfl⟩ : ∃ q, q = wr := ⟨wr, rfl⟩
    by_cases hlt : i < j
    · obtain ⟨h, hh⟩ : ∃ h, h = (i + j) / 2 := ⟨_, rfl⟩
      have hmi : ((i : Int) + (j : Int)) / 2 = (h : Int) := by omega
      have hh1 : i ≤ h := by omega
      have hh2 : h < j := by omega
      obtain ⟨l1, l2, u, v, hu, hv, mu, mv, huv, hc⟩ := HF.out h (by omega) (by omega)
      obtain ⟨q1, hq1⟩ : ∃ q1, pp - h = q1 := ⟨_, rfl⟩
      simp only [hq1] at l1 hu
      have hw9 : IntKind.i64.wrap ((pp : Int) - (h : Int)) = (q1 : Int) := by rw [IntKind.wrap_i64]; omega
      clear hq1
      have l1 : q1 < n := l1
      have l2 : h < n := l2
      have hu : (P ++ X ++ Y ++ S).getD q1 0 = u := hu
      have hv : (P ++ X ++ Y ++ S).getD h 0 = v := hv
      have k1 := HR.out.cell q1 l1
      have k2 := HR.out.cell h l2
      rw [hu] at k1
      rw [hv] at k2
      have hag := O.agree v mv u mu huv
      have hcall := fun W h => HC.out W u v h mu mv
      obtain ⟨cv, hcv⟩ : ∃ cv, cf u v = cv := ⟨_, rfl⟩
      rw [hcv] at hag hcall
      have HCALL := Lib.hid hcall
      have x0 : (0 : Int) ≤ ((q1 : Nat) : Int) := by omega
      have x1 : ((q1 : Nat) : Int) < (n : Int) := by omega
      have y0 : (0 : Int) ≤ ((h : Nat) : Int) := by omega
      have y1 : ((h : Nat) : Int) < (n : Int) := by omega
      clear hcall hcv mu mv huv hu hv hh
      cases hL : L u v with
      | true =>
        rw [hL] at hag hc
        have hneg : cv < 0 := of_decide_eq_true hag
        have HN := Lib.hid (HB.out.no HMO.out (by omega) hc)
        clear hc hL
        go_wp2
        go_region_held3 (fun w' => w'.cell? ⟨g, q1, none⟩ = some (.int .i64 u) ∧ w'.cell? ⟨g, h, none⟩ = some (.int .i64 v)) (go_keep)
          (first | (go_at_call 68; (refine (HCALL.out _ (by first | exact Only.drewN (hW.trans hO) _ | exact hW.trans hO)).mono ?_); rintro e w5 ⟨rfl, hb5⟩; have d1 := cellB hb5 k1; have d2 := cellB hb5 k2; (have hB5 : Below wo.heap.size wo w5 := by first | exact hb5 | exact (bdn (Below.refl _ _) _).trans hb5)))
        have HR5 := Lib.hid (HR.out.later hB5)
        have hO5 := hO.moreS hB5
        go_wp2
        go_roundw
        case rel => exact ⟨i, h, by omega, by omega, by omega, rfl, rfl, HN, HR5, hO5⟩
        case measure => simp [intOf]; omega
      | false =>
        rw [hL] at hag hc
        have hneg : ¬ cv < 0 := of_decide_eq_false hag
        have HN := Lib.hid (HB.out.yes HMO.out (by omega) hc)
        clear hc hL
        go_wp2
        go_region_held3 (fun w' => w'.cell? ⟨g, q1, none⟩ = some (.int .i64 u) ∧ w'.cell? ⟨g, h, none⟩ = some (.int .i64 v)) (go_keep)
          (first | (go_at_call 68; (refine (HCALL.out _ (by first | exact Only.drewN (hW.trans hO) _ | exact hW.trans hO)).mono ?_); rintro e w5 ⟨rfl, hb5⟩; have d1 := cellB hb5 k1; have d2 := cellB hb5 k2; (have hB5 : Below wo.heap.size wo w5 := by first | exact hb5 | exact (bdn (Below.refl _ _) _).trans hb5)))
        have HR5 := Lib.hid (HR.out.later hB5)
        have hO5 := hO.moreS hB5
        go_wp2
        go_roundw
        case rel => exact ⟨h + 1, j, by omega, by omega, by omega, by go_num, rfl, HN, HR5, hO5⟩
        case measure => simp [intOf]; omega
    · obtain rfl : i = j := by omega
      obtain ⟨en, hen1, hen2⟩ : ∃ en, en + i ≤ np ∧ np ≤ en + i := ⟨np - i, by omega, by omega⟩
      have hw10 : IntKind.i64.wrap ((np : Int) - (i : Int)) = (en : Int) := by rw [IntKind.wrap_i64]; omega
      obtain ⟨X1, X2, Y1, Y2, hH, hrot, hsame, q1, q2, q3, q4, q5, q6⟩ := HALV.out i en hi1 hi3 (by omega) HB.out
      have HROT := Lib.hid hrot
      have HSAME := Lib.hid (fun (w9 : World) (he : i = m ∨ en = m) (hr : RowS w9 B g n cap (P ++ X ++ Y ++ S)) => show RowS w9 B g n cap (P ++ X1 ++ Y1 ++ X2 ++ Y2 ++ S) from by rw [← hsame he]; exact hr)
      have HC1 := Lib.hid (fun (w9 : World) (hr : RowS w9 B g n cap (P ++ X1 ++ Y1 ++ X2 ++ Y2 ++ S)) => show RowS w9 B g n cap (P ++ X1 ++ Y1 ++ (X2 ++ Y2 ++ S)) from by simpa only [List.append_assoc] using hr)
      have HD1 := Lib.hid (fun (w9 : World) (hr : RowS w9 B g n cap (P ++ X1 ++ Y1 ++ X2 ++ Y2 ++ S)) => show RowS w9 B g n cap (P ++ (X1 ++ Y1) ++ (X2 ++ Y2 ++ S)) from by simpa only [List.append_assoc] using hr)
      have HC2 := Lib.hid (fun (w9 : World) (Z1 : List Int) (hr : RowS w9 B g n cap (P ++ Z1 ++ (X2 ++ Y2 ++ S))) => show RowS w9 B g n cap (P ++ Z1 ++ X2 ++ Y2 ++ S) from by simpa only [List.append_assoc] using hr)
      have HD2 := Lib.hid (fun (w9 : World) (Z1 : List Int) (hr : RowS w9 B g n cap (P ++ Z1 ++ (X2 ++ Y2 ++ S))) => show RowS w9 B g n cap (P ++ Z1 ++ (X2 ++ Y2) ++ S) from by simpa only [List.append_assoc] using hr)
      have HFIRST := Lib.hid (hH.first HMM.out)
      have HSEC := Lib.hid (fun (Z1 : List Int) (hz : Z1.Perm (X1 ++ Y1)) => hH.second HMM.out hz)
      have HWHOLE := Lib.hid (fun (Z1 Z2 : List Int) (h1 : Z1.Perm (X1 ++ Y1)) (h2 : Z2.Perm (X2 ++ Y2)) (s1 : SortS L Z1) (s2 : SortS L Z2) => hH.whole HMM.out h1 h2 s1 s2)
      have HLEFT := Lib.hid (fun he => hH.left HMM.out he)
      have HRIGHT := Lib.hid (fun he => hH.right HMM.out he)
      have r1 := hH.l1
      have r2 := hH.l2
      have r3 := hH.l3
      have r4 := hH.l4
      have u1 : i = m → mid = en := fun e => by have h1 := HMM.out.hX; have h2 := congrArg List.length hH.hx; rw [List.length_append] at h2; omega
      have u2 : i < m → mid < en := fun e => by have h1 := HMM.out.hX; have h2 := congrArg List.length hH.hx; rw [List.length_append] at h2; omega
      have u3 : en = m → i = mid := fun e => by have h1 := HMM.out.hY; have h2 := congrArg List.length hH.hy; rw [List.length_append] at h2; omega
      have u4 : m < en → i < mid := fun e => by have h1 := HMM.out.hY; have h2 := congrArg List.length hH.hy; rw [List.length_append] at h2; omega
      clear hrot hsame hH r1 r2 r3 r4 HALV HB HF HMO
      by_cases f1 : i < m
      · have f5 := u2 f1
        by_cases f2 : m < en
        · have f4 := u4 f2
          clear u1 u2 u3 u4
          by_cases f3 : a < i
          · by_cases f6 : en < b
            · skip
              have g1 : ((i : Nat) : Int) < ((m : Nat) : Int) := by omega
              have g2 : ((m : Nat) : Int) < ((en : Nat) : Int) := by omega
              have g3 : ((a : Nat) : Int) < ((i : Nat) : Int) := by omega
              have g4 : ((i : Nat) : Int) < ((mid : Nat) : Int) := by omega
              have g5 : ((mid : Nat) : Int) < ((en : Nat) : Int) := by omega
              have g6 : ((en : Nat) : Int) < ((b : Nat) : Int) := by omega
              go_wp2_with (first | (go_at_call 162; (refine (rotate_any B g n cap i m en _ _ _ _ HR.out (by omega) (by omega) (by omega) HROT.out hn).mono ?_); rintro e w1 ⟨rfl, hR1, hO1⟩; have HR1 := Lib.hid hR1; have hOa := hO.trans hO1) | (go_at_call 146; (with_reducible refine (HIH.out a i mid P X1 Y1 (X2 ++ Y2 ++ S) _ (by omega) (hW.trans hOa) (HC1.out _ HR1.out) HFIRST.out (by omega) (by omega)).mono ?_); rintro e w2 ⟨rfl, ⟨Z1, hR2, p1, s1⟩, hO2⟩; have HR2 := Lib.hid hR2; have hOb := hOa.trans hO2) | (go_at_call 146; (with_reducible refine (HIH.out mid en b (P ++ Z1) X2 Y2 S _ (by omega) (hW.trans hOb) (HC2.out _ _ HR2.out) (HSEC.out _ p1) (by omega) (by omega)).mono ?_); rintro e w3 ⟨rfl, ⟨Z2, hR3, p2, s2⟩, hO3⟩; have HR3 := Lib.hid hR3; have hOc := hOb.trans hO3))
              all_goals go_end0
              all_goals exact ⟨rfl, ⟨Z1 ++ Z2, by simpa only [List.append_assoc] using HR3.out, (HWHOLE.out _ _ p1 p2 s1 s2).1, (HWHOLE.out _ _ p1 p2 s1 s2).2⟩, hOc⟩
            · skip
              have g1 : ((i : Nat) : Int) < ((m : Nat) : Int) := by omega
              have g2 : ((m : Nat) : Int) < ((en : Nat) : Int) := by omega
              have g3 : ((a : Nat) : Int) < ((i : Nat) : Int) := by omega
              have g4 : ((i : Nat) : Int) < ((mid : Nat) : Int) := by omega
              have g5 : ((mid : Nat) : Int) < ((en : Nat) : Int) := by omega
              have g6 : ¬ ((en : Nat) : Int) < ((b : Nat) : Int) := by omega
              go_wp2_with (first | (go_at_call 162; (refine (rotate_any B g n cap i m en _ _ _ _ HR.out (by omega) (by omega) (by omega) HROT.out hn).mono ?_); rintro e w1 ⟨rfl, hR1, hO1⟩; have HR1 := Lib.hid hR1; have hOa := hO.trans hO1) | (go_at_call 146; (with_reducible refine (HIH.out a i mid P X1 Y1 (X2 ++ Y2 ++ S) _ (by omega) (hW.trans hOa) (HC1.out _ HR1.out) HFIRST.out (by omega) (by omega)).mono ?_); rintro e w2 ⟨rfl, ⟨Z1, hR2, p1, s1⟩, hO2⟩; have HR2 := Lib.hid hR2; have hOb := hOa.trans hO2; have hOc := hOb; have HR3 := Lib.hid (HD2.out _ _ HR2.out); have p2 := List.Perm.refl (X2 ++ Y2); (have s2 := HRIGHT.out (by omega))))
              all_goals go_end0
              all_goals exact ⟨rfl, ⟨Z1 ++ (X2 ++ Y2), by simpa only [List.append_assoc] using HR3.out, (HWHOLE.out _ _ p1 p2 s1 s2).1, (HWHOLE.out _ _ p1 p2 s1 s2).2⟩, hOc⟩
          · by_cases f6 : en < b
            · skip
              have g1 : ((i : Nat) : Int) < ((m : Nat) : Int) := by omega
              have g2 : ((m : Nat) : Int) < ((en : Nat) : Int) := by omega
              have g3 : ¬ ((a : Nat) : Int) < ((i : Nat) : Int) := by omega
              have g5 : ((mid : Nat) : Int) < ((en : Nat) : Int) := by omega
              have g6 : ((en : Nat) : Int) < ((b : Nat) : Int) := by omega
              go_wp2_with (first | (go_at_call 162; (refine (rotate_any B g n cap i m en _ _ _ _ HR.out (by omega) (by omega) (by omega) HROT.out hn).mono ?_); rintro e w1 ⟨rfl, hR1, hO1⟩; have HR1 := Lib.hid hR1; have hOa := hO.trans hO1; have hOb := hOa; have HR2 := Lib.hid (HD1.out _ HR1.out); have p1 := List.Perm.refl (X1 ++ Y1); (have s1 := HLEFT.out (by omega))) | (go_at_call 146; (with_reducible refine (HIH.out mid en b (P ++ (X1 ++ Y1)) X2 Y2 S _ (by omega) (hW.trans hOb) (HC2.out _ _ HR2.out) (HSEC.out _ p1) (by omega) (by omega)).mono ?_); rintro e w3 ⟨rfl, ⟨Z2, hR3, p2, s2⟩, hO3⟩; have HR3 := Lib.hid hR3; have hOc := hOb.trans hO3))
              all_goals go_end0
              all_goals exact ⟨rfl, ⟨(X1 ++ Y1) ++ Z2, by simpa only [List.append_assoc] using HR3.out, (HWHOLE.out _ _ p1 p2 s1 s2).1, (HWHOLE.out _ _ p1 p2 s1 s2).2⟩, hOc⟩
            · skip
              have g1 : ((i : Nat) : Int) < ((m : Nat) : Int) := by omega
              have g2 : ((m : Nat) : Int) < ((en : Nat) : Int) := by omega
              have g3 : ¬ ((a : Nat) : Int) < ((i : Nat) : Int) := by omega
              have g5 : ((mid : Nat) : Int) < ((en : Nat) : Int) := by omega
              have g6 : ¬ ((en : Nat) : Int) < ((b : Nat) : Int) := by omega
              go_wp2_with (first | (go_at_call 162; (refine (rotate_any B g n cap i m en _ _ _ _ HR.out (by omega) (by omega) (by omega) HROT.out hn).mono ?_); rintro e w1 ⟨rfl, hR1, hO1⟩; have HR1 := Lib.hid hR1; have hOa := hO.trans hO1; have hOb := hOa; have HR2 := Lib.hid (HD1.out _ HR1.out); have p1 := List.Perm.refl (X1 ++ Y1); (have s1 := HLEFT.out (by omega)); have hOc := hOb; have HR3 := Lib.hid (HD2.out _ _ HR2.out); have p2 := List.Perm.refl (X2 ++ Y2); (have s2 := HRIGHT.out (by omega))))
              all_goals go_end0
              all_goals exact ⟨rfl, ⟨(X1 ++ Y1) ++ (X2 ++ Y2), by simpa only [List.append_assoc] using HR3.out, (HWHOLE.out _ _ p1 p2 s1 s2).1, (HWHOLE.out _ _ p1 p2 s1 s2).2⟩, hOc⟩
        · obtain ⟨f4a, f4b⟩ : i ≤ mid ∧ mid ≤ i := by (have h0 := u3 (by omega)); omega
          clear u1 u2 u3 u4
          have g1 : ((i : Nat) : Int) < ((m : Nat) : Int) := by omega
          have g2 : ¬ ((m : Nat) : Int) < ((en : Nat) : Int) := by omega
          have g3 : ((a : Nat) : Int) < ((i : Nat) : Int) := by omega
          have g4 : ¬ ((i : Nat) : Int) < ((mid : Nat) : Int) := by omega
          have g5 : ((mid : Nat) : Int) < ((en : Nat) : Int) := by omega
          have g6 : ((en : Nat) : Int) < ((b : Nat) : Int) := by omega
          have HR1 := Lib.hid (HSAME.out wo (by omega) HR.out)
          have hOa := hO
          have hOb := hOa; have HR2 := Lib.hid (HD1.out _ HR1.out); have p1 := List.Perm.refl (X1 ++ Y1); (have s1 := HLEFT.out (by omega))
          go_wp2_with (first | (go_at_call 146; (with_reducible refine (HIH.out mid en b (P ++ (X1 ++ Y1)) X2 Y2 S _ (by omega) (hW.trans hOb) (HC2.out _ _ HR2.out) (HSEC.out _ p1) (by omega) (by omega)).mono ?_); rintro e w3 ⟨rfl, ⟨Z2, hR3, p2, s2⟩, hO3⟩; have HR3 := Lib.hid hR3; have hOc := hOb.trans hO3))
          all_goals go_end0
          all_goals exact ⟨rfl, ⟨(X1 ++ Y1) ++ Z2, by simpa only [List.append_assoc] using HR3.out, (HWHOLE.out _ _ p1 p2 s1 s2).1, (HWHOLE.out _ _ p1 p2 s1 s2).2⟩, hOc⟩
      · obtain ⟨f5a, f5b⟩ : mid ≤ en ∧ en ≤ mid := by (have h0 := u1 (by omega)); omega
        clear u1 u2 u3 u4
        by_cases f4 : i < mid
        · skip
          have g1 : ¬ ((i : Nat) : Int) < ((m : Nat) : Int) := by omega
          have g3 : ((a : Nat) : Int) < ((i : Nat) : Int) := by omega
          have g4 : ((i : Nat) : Int) < ((mid : Nat) : Int) := by omega
          have g5 : ¬ ((mid : Nat) : Int) < ((en : Nat) : Int) := by omega
          have HR1 := Lib.hid (HSAME.out wo (by omega) HR.out)
          have hOa := hO
          go_wp2_with (first | (go_at_call 146; (with_reducible refine (HIH.out a i mid P X1 Y1 (X2 ++ Y2 ++ S) _ (by omega) (hW.trans hOa) (HC1.out _ HR1.out) HFIRST.out (by omega) (by omega)).mono ?_); rintro e w2 ⟨rfl, ⟨Z1, hR2, p1, s1⟩, hO2⟩; have HR2 := Lib.hid hR2; have hOb := hOa.trans hO2; have hOc := hOb; have HR3 := Lib.hid (HD2.out _ _ HR2.out); have p2 := List.Perm.refl (X2 ++ Y2); (have s2 := HRIGHT.out (by omega))))
          all_goals go_end0
          all_goals exact ⟨rfl, ⟨Z1 ++ (X2 ++ Y2), by simpa only [List.append_assoc] using HR3.out, (HWHOLE.out _ _ p1 p2 s1 s2).1, (HWHOLE.out _ _ p1 p2 s1 s2).2⟩, hOc⟩
        · skip
          have g1 : ¬ ((i : Nat) : Int) < ((m : Nat) : Int) := by omega
          have g3 : ((a : Nat) : Int) < ((i : Nat) : Int) := by omega
          have g4 : ¬ ((i : Nat) : Int) < ((mid : Nat) : Int) := by omega
          have g5 : ¬ ((mid : Nat) : Int) < ((en : Nat) : Int) := by omega
          have HR1 := Lib.hid (HSAME.out wo (by omega) HR.out)
          have hOa := hO
          have hOb := hOa; have HR2 := Lib.hid (HD1.out _ HR1.out); have p1 := List.Perm.refl (X1 ++ Y1); (have s1 := HLEFT.out (by omega)); have hOc := hOb; have HR3 := Lib.hid (HD2.out _ _ HR2.out); have p2 := List.Perm.refl (X2 ++ Y2); (have s2 := HRIGHT.out (by omega))
          go_wp2
          all_goals go_end0
          all_goals exact ⟨rfl, ⟨(X1 ++ Y1) ++ (X2 ++ Y2), by simpa only [List.append_assoc] using HR3.out, (HWHOLE.out _ _ p1 p2 s1 s2).1, (HWHOLE.out _ _ p1 p2 s1 s2).2⟩, hOc⟩

end Go.Proofs.Ytnldnjgnpdicnaa
