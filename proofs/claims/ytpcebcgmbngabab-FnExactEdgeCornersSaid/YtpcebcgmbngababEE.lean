/- The edge of threads: the model. -/
import Derived.Test.YtpcebcgmbngababEO
import Derived.Test.YtpcebcgmbngababVA
import Derived.Test.YtpcebcgmbngababUGs
namespace Go.Proofs.Ytpcebcgmbngabab
open Go.RowKit
set_option linter.unusedVariables false

set_option maxHeartbeats 4000000 in
set_option maxRecDepth 10000 in
theorem sgEdge_any (u : Value) (xs : List (Int × Int)) (B T : Nat) (w : World) (h : PairsIn 82 w B T u xs) (hT : T ≤ w.heap.size) (hg : goodT xs) :
    Calls Try.prog 62 #[u] w fun e w' => ∃ v1 v2, e = .returned (.tuple #[v1, v2]) ∧ IntsIn 3 w' w.heap.size w'.heap.size v1 (edgeT xs) ∧ RowsIn 39 3 w' w.heap.size w'.heap.size v2 (cornersT xs) ∧ Below w.heap.size w w' := by
  have HU := Lib.hid h
  have HG := Lib.hid hg
  have hn : xs.length ≤ 30 := hg.1.2
  have hn1 : 0 < xs.length := hg.1.1
  obtain ⟨g1, c1, rfl⟩ := list_form h hn1
  clear h hg
  go_enter Try.func62, Try.ntmps62
  go_wp2
  go_loopw [4, 16] (fun c i wr => ∃ k : Nat, k ≤ xs.length ∧ i = .int .i64 k ∧ c = .int .i64 (startE xs k : Nat) ∧ Below w.heap.size w wr) (fun _ i _ => xs.length - (intOf i).toNat)
  case atStart => exact ⟨0, by omega, rfl, rfl, Below.refl _ _⟩
  case round =>
    obtain ⟨k, hk, rfl, rfl, hB⟩ := hrel
    have hz := hB.size
    by_cases hlt : k < xs.length
    · have HUr := Lib.hid (HU.out.keep (belowSame hB hT))
      have hs := startE_lt xs hn1 k hk
      have hst : startE xs (k + 1) = if (xs.getD (startE xs k) (0, 0)).2 ≤ (xs.getD k (0, 0)).2 then k else startE xs k := rfl
      obtain ⟨s, hse⟩ : ∃ s, startE xs k = s := ⟨_, rfl⟩
      rw [hse] at hs hst ⊢
      obtain ⟨a, b, hab⟩ : ∃ a b, xs.getD k (0, 0) = (a, b) := ⟨_, _, rfl⟩
      obtain ⟨a2, b2, hab2⟩ : ∃ a b, xs.getD s (0, 0) = (a, b) := ⟨_, _, rfl⟩
      obtain ⟨e0, e1⟩ := elem_cells HUr.out k hlt a b hab
      obtain ⟨f0, f1⟩ := elem_cells HUr.out s hs a2 b2 hab2
      rw [hab, hab2] at hst
      simp only at hst
      have hbw : Below wr.heap.size wr (wr.alloc (.cells #[.int .i64 a, .int .i64 b] 82)) := by go_grown
      have f2 := cellB hbw f1
      have k1 : 0 ≤ (k : Int) := by omega
      have k2 : (k : Int) < (xs.length : Int) := by omega
      have s1 : 0 ≤ (s : Int) := by omega
      have s2 : (s : Int) < (xs.length : Int) := by omega
      clear hab hab2 hse hbw f0 f1
      by_cases hb : b2 ≤ b
      · rw [if_pos hb] at hst
        have HST := Lib.hid hst
        clear hst
        go_wp2
        go_quiet (fail)
        go_wp2
        go_roundw
        case rel => exact ⟨k + 1, by omega, by go_num, by rw [HST.out], bdn (hB.alloc hz _) _⟩
        case measure => simp [intOf]; omega
      · rw [if_neg hb] at hst
        have HST := Lib.hid hst
        clear hst
        go_wp2
        go_quiet (fail)
        go_wp2
        go_roundw
        case rel => exact ⟨k + 1, by omega, by go_num, by rw [HST.out], bdn (hB.alloc hz _) _⟩
        case measure => simp [intOf]; omega
    · obtain rfl : k = xs.length := by omega
      go_wp2
      go_loopw [4, 7, 8] (fun at_ o_ c_ wr => ∃ k : Nat, k < xs.length ∧ at_ = .int .i64 k ∧ Hid (∃ pre pc vs, EdgeM wr w.heap.size xs k pre pc vs o_ c_) ∧ Below w.heap.size w wr) (fun at_ _ _ _ => xs.length - (intOf at_).toNat)
      case atStart => exact ⟨startE xs xs.length, startE_lt xs hn1 _ (Nat.le_refl _), rfl, Lib.hid ⟨[], [], [], EdgeM.start _ _ hn1 hB.size _ rfl⟩, hB.alloc hB.size _⟩
      case round =>
        obtain ⟨k, hk, rfl, HEM, hB⟩ := hrel
        obtain ⟨wo, rfl⟩ : ∃ z, z = wr := ⟨wr, rfl⟩
        have hzo := hB.size
        obtain ⟨a, b, hab⟩ : ∃ a b, xs.getD k (0, 0) = (a, b) := ⟨_, _, rfl⟩
        have hTk := HG.out.at k hk
        rw [hab] at hTk
        have HAB := Lib.hid hab
        have HTK := Lib.hid hTk
        have k1 : 0 ≤ (k : Int) := by omega
        have k2 : (k : Int) < (xs.length : Int) := by omega
        clear hab hTk
        go_wp2
        go_loopw [9, 10, 35] (fun n c i wr => ∃ m : Nat, m ≤ xs.length ∧ i = .int .i64 m ∧ Hid (CornerE wr wo.heap.size xs k (nxtE xs k m) n c) ∧ Below wo.heap.size wo wr) (fun _ _ i _ => xs.length - (intOf i).toNat)
        case atStart => exact ⟨0, by omega, rfl, Lib.hid (.inl ⟨rfl, rfl, rfl⟩), Below.refl _ _⟩
        case round =>
          obtain ⟨m, hm2, rfl, HS, hBm⟩ := hrel
          have hzm := hBm.size
          by_cases hlt : m < xs.length
          · have HUr := Lib.hid (HU.out.keep (belowSame (hB.trans (hBm.mono hzo)) hT))
            obtain ⟨e0, e1⟩ := elem_cells HUr.out k hk a b HAB.out
            obtain ⟨c, d, hcd⟩ : ∃ a b, xs.getD m (0, 0) = (a, b) := ⟨_, _, rfl⟩
            obtain ⟨f0, f1⟩ := elem_cells HUr.out m hlt c d hcd
            have hTm := HG.out.at m hlt
            rw [hcd] at hTm
            have hcm : candE xs k m = (decide (a < c) && meetB a b c d) := by unfold candE; rw [HAB.out, hcd]
            have m1 : 0 ≤ (m : Int) := by omega
            have m2 : (m : Int) < (xs.length : Int) := by omega
            have HCD := Lib.hid hcd
            have HTM := Lib.hid hTm
            have HCM := Lib.hid hcm
            have hbw : Below wr.heap.size wr (wr.alloc (.cells #[.int .i64 c, .int .i64 d] 82)) := by go_grown
            have e2 := cellB hbw e0
            have e3 := cellB hbw e1
            have b0 : (wr.alloc (.cells #[.int .i64 c, .int .i64 d] 82)).cell? ⟨wr.heap.size, 0, none⟩ = some (.int .i64 c) := by go_simp
            have b1 : (wr.alloc (.cells #[.int .i64 c, .int .i64 d] 82)).cell? ⟨wr.heap.size, 1, none⟩ = some (.int .i64 d) := by go_simp
            clear hcd hTm hcm
            by_cases hac : c ≤ a
            · have hdc : decide (c ≤ a) = true := decide_eq_true hac
              have hnx : nxtE xs k (m + 1) = nxtE xs k m := by rw [nxtE, HCM.out, decide_eq_false (by omega : ¬ a < c)]; rfl
              have HNX := Lib.hid hnx
              clear hbw hnx
              go_wp2
              go_quiet (fail)
              go_wp2
              go_roundw
              case rel => exact ⟨m + 1, by omega, by go_num, Lib.hid (by rw [HNX.out]; exact HS.out.later (bdn ((Below.refl _ _).alloc (Nat.le_refl _) _) _)), bdn (hBm.alloc hzm _) _⟩
              case measure => simp [intOf]; omega
            · have hdc : decide (c ≤ a) = false := decide_eq_false hac
              cases hmt : meetB a b c d with
              | false =>
                have hnx : nxtE xs k (m + 1) = nxtE xs k m := by rw [nxtE, HCM.out, hmt, Bool.and_false]; rfl
                have HNX := Lib.hid hnx
                have HMT := Lib.hid hmt
                clear hbw hnx hmt
                go_wp2
                go_region_held3 (fun w' => w'.cell? ⟨g1, k * 2, none⟩ = some (.int .i64 a) ∧ w'.cell? ⟨g1, k * 2 + 1, none⟩ = some (.int .i64 b) ∧ w'.cell? ⟨wr.heap.size, 0, none⟩ = some (.int .i64 c) ∧ w'.cell? ⟨wr.heap.size, 1, none⟩ = some (.int .i64 d)) (go_keep)
                  (first | (go_at_call 89; (with_reducible refine (sgMeet_any a b c d _).mono ?_); rintro e w1 ⟨rfl, hb⟩; rw [HMT.out]; have x0 := cellB hb e2; have x1 := cellB hb e3; have x2 := cellB hb b0; have x3 := cellB hb b1; (have hw1 : Below wr.heap.size wr w1 := Below.trans (by go_grown) (hb.mono (by simp)))))
                go_wp2
                go_roundw
                case rel => exact ⟨m + 1, by omega, by go_num, Lib.hid (by rw [HNX.out]; exact HS.out.later (by first | exact hw1 | exact bdn hw1 _)), by first | exact hBm.trans (hw1.mono hzm) | exact bdn (hBm.trans (hw1.mono hzm)) _⟩
                case measure => simp [intOf]; omega
              | true =>
                have HMT := Lib.hid hmt
                clear hbw hmt
                go_wp2
                go_region_held3 (fun w' => w'.cell? ⟨g1, k * 2, none⟩ = some (.int .i64 a) ∧ w'.cell? ⟨g1, k * 2 + 1, none⟩ = some (.int .i64 b) ∧ w'.cell? ⟨wr.heap.size, 0, none⟩ = some (.int .i64 c) ∧ w'.cell? ⟨wr.heap.size, 1, none⟩ = some (.int .i64 d)) (go_keep)
                  (first | (go_at_call 89; (with_reducible refine (sgMeet_any a b c d _).mono ?_); rintro e w1 ⟨rfl, hb⟩; rw [HMT.out]; have x0 := cellB hb e2; have x1 := cellB hb e3; have x2 := cellB hb b0; have x3 := cellB hb b1; (have hw1 : Below wr.heap.size wr w1 := Below.trans (by go_grown) (hb.mono (by simp)))))
                go_wp2
                obtain ⟨P, hP⟩ : ∃ P, exA xs k m = P := ⟨_, rfl⟩
                obtain ⟨Q, hQ⟩ : ∃ Q, exB xs k m = Q := ⟨_, rfl⟩
                have hcc : candE xs k m = true := by rw [HCM.out, HMT.out, decide_eq_true (by omega : a < c)]; rfl
                have hpq := ex_bounds HG.out hk hlt hcc
                rw [hP, hQ] at hpq
                have HPE := Lib.hid (show lowA (mxN a b c d) (mdN a b c d) = P by rw [← hP]; unfold exA; rw [HAB.out, HCD.out])
                have HQE := Lib.hid (show lowB (mxN a b c d) (mdN a b c d) = Q by rw [← hQ]; unfold exB; rw [HAB.out, HCD.out])
                have HPX := Lib.hid hP
                have HQX := Lib.hid hQ
                have HCC := Lib.hid hcc
                obtain ⟨hp1, hq1⟩ := hpq
                clear hP hQ hcc hdc
                go_region_held3 (fun w' => w'.cell? ⟨g1, k * 2, none⟩ = some (.int .i64 a) ∧ w'.cell? ⟨g1, k * 2 + 1, none⟩ = some (.int .i64 b) ∧ w'.cell? ⟨wr.heap.size, 0, none⟩ = some (.int .i64 c) ∧ w'.cell? ⟨wr.heap.size, 1, none⟩ = some (.int .i64 d)) (go_keep)
                  (first | (go_at_call 90; (with_reducible refine (sgMeeting_e a b c d _ HTK.out HTM.out HMT.out).mono ?_); rintro e w3 ⟨v3, rfl, hI3, hb3⟩; (have HI3 := Lib.hid (show CornerE w3 wo.heap.size xs k (some m) (.int .i64 m) v3 from .inr ⟨m, rfl, rfl, by unfold mtE; rw [HAB.out, HCD.out]; exact hI3.mono (by have := hw1.size; simp; omega)⟩)); obtain ⟨a9, c9, g9, rfl, ha9, _, _, hg9, hc9, _⟩ := hI3.view; obtain rfl := ha9 (by show 0 < 4; omega); have hg9' := hg9 (by show 0 < 4; omega); (have p0 : w3.cell? ⟨g9, 0, none⟩ = some (.int .i64 (P : Nat)) := by have := hc9 0 (by show 0 < 4; omega); rw [this, ← HPE.out]; rfl); (have p1 : w3.cell? ⟨g9, 1, none⟩ = some (.int .i64 (Q : Nat)) := by have := hc9 1 (by show 1 < 4; omega); rw [this, ← HQE.out]; rfl); rw [show (meetL a b c d).length = 4 from rfl]; have z0 := cellB hb3 x0; have z1 := cellB hb3 x1; have z2 := cellB hb3 x2; have z3 := cellB hb3 x3; (have hw3 : Below wr.heap.size wr w3 := Below.trans hw1 (Below.trans (by go_grown) (hb3.mono (by simp)) |>.mono hw1.size)); clear hg9 hc9 ha9 hI3 hg9'))
                have hw3' := hBm.trans (hw3.mono hzm)
                have hnx : nxtE xs k (m + 1) = (match nxtE xs k m with | none => some m | some j => if P * exB xs k j ≤ exA xs k j * Q then some m else some j) := by rw [nxtE, HCC.out, HPX.out, HQX.out]; rfl
                rcases HS.out with ⟨hno, rfl, rfl⟩ | ⟨j, hj, rfl, hI0⟩
                · rw [hno] at hnx
                  have HNX := Lib.hid hnx
                  clear hnx
                  go_wp2
                  go_quiet (fail)
                  go_wp2
                  go_roundw
                  case rel => exact ⟨m + 1, by omega, by go_num, Lib.hid (by rw [HNX.out]; exact HI3.out), by first | exact hw3' | exact bdn hw3' _⟩
                  case measure => simp [intOf]; omega
                · have hjm := nxt_some m j hj
                  have hjl : j < xs.length := by omega
                  have hbj := ex_bounds HG.out hk hjl hjm.2
                  obtain ⟨P0, hP0⟩ : ∃ P0, exA xs k j = P0 := ⟨_, rfl⟩
                  obtain ⟨Q0, hQ0⟩ : ∃ Q0, exB xs k j = Q0 := ⟨_, rfl⟩
                  obtain ⟨a8, c8, g, rfl, ha8, _, _, _, hc8, _⟩ := hI0.view
                  obtain rfl := ha8 (by show 0 < 4; omega)
                  have y0 : wr.cell? ⟨g, 0, none⟩ = some (.int .i64 (P0 : Nat)) := by rw [hc8 0 (by show 0 < 4; omega), mtE_zero, hP0]
                  have y1 : wr.cell? ⟨g, 1, none⟩ = some (.int .i64 (Q0 : Nat)) := by rw [hc8 1 (by show 1 < 4; omega), mtE_one, hQ0]
                  rw [hj] at hnx
                  simp only [hP0, hQ0] at hnx
                  rw [hP0, hQ0] at hbj
                  rw [show (mtE xs k j).length = 4 from rfl] at *
                  obtain ⟨l1, l2⟩ := hbj
                  obtain ⟨aj, bj, haj⟩ : ∃ a b, xs.getD j (0, 0) = (a, b) := ⟨_, _, rfl⟩
                  obtain ⟨t0, t1⟩ := elem_cells HUr.out j hjl aj bj haj
                  have u0 := cellB hw3 t0
                  have yy0 := cellB hw3 y0
                  have yy1 := cellB hw3 y1
                  have mm1 : P * Q0 ≤ 1000000 * 10000 := Nat.mul_le_mul hp1 l2
                  have mm2 : P0 * Q ≤ 1000000 * 10000 := Nat.mul_le_mul l1 hq1
                  have ww1 : IntKind.i64.wrap ((P : Int) * (Q0 : Int)) = ((P * Q0 : Nat) : Int) := by rw [IntKind.wrap_i64, ← Int.natCast_mul]; omega
                  have ww2 : IntKind.i64.wrap ((P0 : Int) * (Q : Int)) = ((P0 * Q : Nat) : Int) := by rw [IntKind.wrap_i64, ← Int.natCast_mul]; omega
                  have htie : P * Q0 = P0 * Q → aj < c := fun e => by
                    have := tie_more HG.out hk hjm.1 hlt hjm.2 HCC.out (by rw [HPX.out, HQX.out, hP0, hQ0]; exact e)
                    rw [haj, HCD.out] at this
                    exact this
                  obtain ⟨s1, hs1⟩ : ∃ s, P * Q0 = s := ⟨_, rfl⟩
                  obtain ⟨s2, hs2⟩ : ∃ s, P0 * Q = s := ⟨_, rfl⟩
                  rw [hs1] at ww1 htie hnx
                  rw [hs2] at ww2 htie hnx
                  have HJ := Lib.hid hj
                  have j1 : 0 ≤ (j : Int) := by omega
                  have j2 : (j : Int) < (xs.length : Int) := by omega
                  have hd0 : decide ((j : Int) < 0) = false := decide_eq_false (by omega)
                  have HOLD := Lib.hid (show CornerE wr wo.heap.size xs k (some j) (.int .i64 j) (.slice (some ⟨g, 0, none⟩) 4 c8) from .inr ⟨j, rfl, rfl, hI0⟩)
                  clear hj hs1 hs2 hP0 hQ0 mm1 mm2 haj t0 t1 y0 y1 hjm hI0 ha8 hc8 HS
                  by_cases hA : s1 < s2
                  · have hd1 : decide ((s1 : Int) < (s2 : Int)) = true := decide_eq_true (by omega)
                    rw [if_pos (by omega)] at hnx
                    have HNX := Lib.hid hnx
                    clear htie hnx
                    go_wp2
                    go_quiet (fail)
                    go_wp2
                    go_roundw
                    case rel => exact ⟨m + 1, by omega, by go_num, Lib.hid (by rw [HNX.out]; exact HI3.out), by first | exact hw3' | exact bdn hw3' _⟩
                    case measure => simp [intOf]; omega
                  · have hd1 : decide ((s1 : Int) < (s2 : Int)) = false := decide_eq_false (by omega)
                    by_cases hE : s1 = s2
                    · have hd2 : ((s1 : Int) == (s2 : Int)) = true := beq_iff_eq.2 (by omega)
                      have hd3 : decide (aj < c) = true := decide_eq_true (htie hE)
                      rw [if_pos (by omega)] at hnx
                      have HNX := Lib.hid hnx
                      clear htie hnx
                      go_wp2
                      go_quiet (fail)
                      go_wp2
                      go_roundw
                      case rel => exact ⟨m + 1, by omega, by go_num, Lib.hid (by rw [HNX.out]; exact HI3.out), by first | exact hw3' | exact bdn hw3' _⟩
                      case measure => simp [intOf]; omega
                    · have hd2 : ((s1 : Int) == (s2 : Int)) = false := beq_eq_false_iff_ne.2 (by omega)
                      rw [if_neg (by omega)] at hnx
                      have HNX := Lib.hid hnx
                      clear htie hnx
                      go_wp2
                      go_quiet (fail)
                      go_wp2
                      go_roundw
                      case rel => exact ⟨m + 1, by omega, by go_num, Lib.hid (by rw [HNX.out]; exact HOLD.out.later (by first | exact hw3 | exact bdn hw3 _)), by first | exact hw3' | exact bdn hw3' _⟩
                      case measure => simp [intOf]; omega
          · obtain rfl : m = xs.length := by omega
            have hBw := hB.trans (hBm.mono hzo)
            have hzw := hBw.size
            rcases HS.out with ⟨hno, rfl, rfl⟩ | ⟨j, hj, rfl, hI0⟩
            · have HNO := Lib.hid hno
              clear hno
              go_wp2
              go_ret2
              obtain ⟨pre, pc, vs, he⟩ := HEM.out
              have he := he.grow hBm
              have hl := he.along.last HNO.out
              refine ⟨_, _, rfl, ?_, ?_, hBw⟩
              · rw [← hl.1]; exact ⟨he.out, fun b hb => (he.out.own b hb).2⟩
              · rw [← hl.2]; exact ⟨vs, he.rows⟩
            · obtain ⟨pre, pc, vs, he⟩ := HEM.out
              have hd0 : decide ((j : Int) < 0) = false := decide_eq_false (by omega)
              obtain ⟨a8, c8, rfl⟩ := hI0.opened
              have hkj := (he.along.next HG.out hj).2
              have hjn := (nxt_some _ _ hj).1
              have hpl := he.along.preL
              have hpcl := he.along.pcL
              have hvl := he.rows.len
              have HI := Lib.hid (he.out.later hBm)
              have HE := Lib.hid he
              have HC := Lib.hid hI0
              have HJ := Lib.hid hj
              clear he hI0 hj HS HEM
              go_wp2_with (first
                | (at_builtin; refine wpList_append_int_lies rfl _ _ 39 rfl (w.heap.size) 3 Try.underlying39 info_int _ _ rfl HI.out (j : Int) _ rfl rfl (by simp; omega) hzw ?_; intro g2 cap2 w2 hI2 hg2 hl2; have hB2 := HI.out.below hBw hzw hg2; have hz2 := hB2.size; have HM := Lib.hid (edge_mid HE.out hBm HC.out hg2); have HI2 := Lib.hid hI2; have HG2 := Lib.hid hg2; have HL2 := Lib.hid hl2; clear hI2 hg2 hl2)
                | (at_builtin; refine wpList_append_val rfl _ _ 49 rfl w.heap.size 39 (.slice none 0 0) 24 Try.underlying49 info_ints (by decide) (by decide) _ vs rfl HM.out.1.outer _ rfl rfl (by omega) hz2 ?_; intro v4 w4 hO hg4; have HS4 := Lib.hid (edge_step HE.out hzo HG.out HJ.out hBm HC.out HG2.out HI2.out HL2.out hO hg4); have hB4 : Below w.heap.size w w4 := hB2.grown hg4 hz2 (fun q hq => (HM.out.1.outer.lt q hq).1); clear hO hg4))
              go_roundw
              case rel =>
                have h9 := HS4.out
                rw [List.length_append] at h9
                exact ⟨j, hjn, rfl, Lib.hid ⟨_, _, _, h9⟩, hB4⟩
              case measure => simp [intOf]; omega

end Go.Proofs.Ytpcebcgmbngabab
