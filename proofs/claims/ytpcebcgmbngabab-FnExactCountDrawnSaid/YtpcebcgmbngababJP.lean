/- Loops by rank: the program. -/
import Derived.Test.YtpcebcgmbngababJO
import Derived.Test.YtpcebcgmbngababJE
import Derived.Test.YtpcebcgmbngababJR
import Derived.Test.YtpcebcgmbngababJ7
namespace Go.Proofs.Ytpcebcgmbngabab
open Go.RowKit
set_option linter.unusedVariables false

theorem letterOf_lt (k : Nat) (w : World) (h : k < 100) :
    Calls Try.prog 78 #[.int .i64 k] w fun e w' => e = .returned (.int .u8 ((lt8 k).toNat : Int)) ∧ w = w' := by
  rw [lt8_nat k h]
  exact letterOf_any k w h

theorem convB (w : World) (B : Nat) (v : Value) (bs : List UInt8) (h : ByO w B v bs) :
    ∃ a0 cap, v = .slice a0 bs.length cap ∧ (convert 74 9 (.slice a0 bs.length cap)).run Try.prog w = .ok (.string (txL bs)) w := by
  obtain ⟨a0, cap, g, rfl, ha, hn, hm, _, hc, h0⟩ := h.view
  refine ⟨a0, cap, rfl, ?_⟩
  have hs : strOfNums (bs.map fun b => (b.toNat : Int)) = txL bs := by
    unfold strOfNums txL
    congr 2
    rw [List.map_map]
    conv => rhs; rw [← List.map_id bs]
    exact List.map_congr_left fun b _ => by simp
  rcases h0 with rfl | rfl
  · have hl : bs = [] := by
      cases bs with
      | nil => rfl
      | cons x r => have := ha (by simp); cases this
    subst hl
    exact run_convert_bytes_nil (P := Try.prog) (w := w) 74 5 Try.underlying74 Try.underlying5 0 cap 9 Try.underlying9
  · have := run_convert_bytes_arg (P := Try.prog) w 74 5 Try.underlying74 Try.underlying5 g 0 bs.length cap (bs.map fun b => (b.toNat : Int)) (by simp) (fun i hi => by rw [Nat.zero_add, hc i hi]; simp [List.getD, List.getElem?_eq_getElem hi]) 9 Try.underlying9
    rw [hs] at this
    exact this

theorem byo_cell {w : World} {B g n cap : Nat} {bs : List UInt8} (h : ByO w B (.slice (some ⟨g, 0, none⟩) n cap) bs) (i : Nat) (hi : i < bs.length) : w.cell? ⟨g, i, none⟩ = some (.int .u8 (bs.getD i 0).toNat) := by
  obtain ⟨a0, c, g', e, ha, _, _, _, hc, _⟩ := h.view
  have := ha (by omega)
  cases e
  cases this
  exact hc i hi

def sliceLen : Value → Nat
  | .slice _ m _ => m
  | _ => 0

set_option maxHeartbeats 4000000 in
set_option maxRecDepth 100000 in
theorem loopOfRank_any (n r0 : Nat) (w : World) (hn : n ≤ 8) (hr : r0 < waysN 0 n) :
    Calls Try.prog 52 #[.int .i64 n, .int .i64 r0] w fun e w' => e = .returned (.string (txL (rankedL n r0))) ∧ Below w.heap.size w w' := by
  have HIV := Lib.hid (fun i hi => rankTo_inv n r0 hr i hi)
  have HST := Lib.hid (fun i => show rankTo n r0 (i + 1) = rankStep n (rankTo n r0 i) from rfl)
  have H0 : rankTo n r0 0 = ⟨[], [], 0, r0⟩ := rfl
  have HFIN : Hid (rankedL n r0 = (rankTo n r0 (2 * n)).out) := Lib.hid rfl
  have HWB := Lib.hid (fun o l (h : o + l ≤ 9) => And.intro (waysN_pos o l) (waysN_le o l h))
  have hw2n : IntKind.i64.wrap (2 * (n : Int)) = 2 * (n : Int) := by rw [IntKind.wrap_i64]; omega
  obtain ⟨F, hF⟩ : ∃ F, rankTo n r0 = F := ⟨_, rfl⟩
  rw [hF] at HIV HST H0 HFIN
  clear hF hr
  go_enter Try.func52, Try.ntmps52
  go_wp2
  go_loopw [1, 5, 6, 7] (fun r s o l wr => ∃ i : Nat, i ≤ 2 * n ∧ r = .int .i64 (F i).r ∧ l = .int .i64 ((n : Int) - (F i).nx) ∧ ByO wr w.heap.size s (F i).out ∧ ByO wr w.heap.size o (F i).op ∧ (∀ g, s.ownBlock = some g → o.ownBlock ≠ some g) ∧ Below w.heap.size w wr) (fun _ s _ _ _ => 2 * n - sliceLen s)
  case atStart => exact ⟨0, by omega, by rw [H0], by rw [H0]; simp, by rw [H0]; exact ByO.nil _ _, by rw [H0]; exact ByO.nil _ _, fun g hg => by simp [Value.ownBlock] at hg, Below.refl _ _⟩
  case round =>
    obtain ⟨i, hi, rfl, rfl, hI, hJ, hA, hB⟩ := hrel
    have hz := hB.size
    have hiv := HIV.out i hi
    have hst := HST.out i
    obtain ⟨S, hS⟩ : ∃ S, F i = S := ⟨_, rfl⟩
    rw [hS] at hiv hst hI hJ ⊢
    have HS := Lib.hid hS
    obtain ⟨out, op, nx, r⟩ := S
    obtain ⟨i1, i2, i3, i4, i5⟩ := hiv
    simp only at i1 i2 i3 i4 i5 hI hJ ⊢
    obtain ⟨a1, c1, g1, rfl, ha1, hn1, hm1, -, -, -⟩ := hI.view
    obtain ⟨a2, c2, g2, rfl, ha2, hn2, hm2, -, hc2, -⟩ := hJ.view
    rw [i1] at hI hA ⊢
    have HI := Lib.hid hI
    by_cases hlt : i < 2 * n
    · have HI1 := Lib.hid i1
      obtain ⟨m, hm⟩ : ∃ m, op.length = m := ⟨_, rfl⟩
      rw [hm] at hJ hA hc2 ha2 hn2 i2 i4 i5 ⊢
      have HJ := Lib.hid hJ
      have HA := Lib.hid hA
      have HC := Lib.hid hc2
      obtain ⟨l, hl⟩ : ∃ l, n - nx = l := ⟨_, rfl⟩
      have e1 : (n : Int) - (nx : Int) = (l : Int) := by omega
      have HE1 := Lib.hid e1
      have hnx1 := (HIV.out (i + 1) (by omega)).nx
      have hwb := HWB.out (m - 1) l (by omega)
      obtain ⟨W, hW⟩ : ∃ W, waysN (m - 1) l = W := ⟨_, rfl⟩
      have hst2 : rankStep n ⟨out, op, nx, r⟩ = if r / W < m then ⟨out ++ [op.getD (r / W) 0], op.eraseIdx (r / W), nx, r - r / W * W⟩ else ⟨out ++ [lt8 nx], op ++ [lt8 nx], nx + 1, r - m * W⟩ := by
        unfold rankStep RkS.ways
        simp only [hm, hl, hW]
      rw [hst2] at hst
      rw [hW] at hwb
      obtain ⟨hW1, hW2⟩ := hwb
      obtain ⟨O, hO⟩ : ∃ O, m - 1 = O := ⟨_, rfl⟩
      obtain ⟨q, hq⟩ : ∃ q, r / W = q := ⟨_, rfl⟩
      rw [hq] at hst
      have hqr : q ≤ r := by rw [← hq]; exact Nat.div_le_self _ _
      have hr9 : r < 34459425 := by have := (HWB.out m l (by omega)).2; rw [hl] at i5; omega
      have hqW : q * W ≤ r := by rw [← hq]; exact Nat.div_mul_le_self _ _
      have hmW : ¬ q < m → m * W ≤ r := fun h => Nat.le_trans (Nat.mul_le_mul_right W (Nat.le_of_not_lt h)) hqW
      have hWne : ¬ (W : Int) = 0 := by omega
      have ed : Int.tdiv (r : Int) (W : Int) = (q : Int) := by rw [Int.tdiv_eq_ediv_of_nonneg (by omega), ← hq]; simp
      have ew : IntKind.i64.wrap (q : Int) = (q : Int) := by rw [IntKind.wrap_i64]; omega
      have em : IntKind.i64.wrap ((m : Int) - 1) = (m : Int) - 1 := by rw [IntKind.wrap_i64]; omega
      have HWAY := Lib.hid (fun Wo => show Calls Try.prog 50 #[.int .i64 ((m : Int) - 1), .int .i64 l] Wo fun e w' => e = .returned (.int .i64 W) ∧ Wo = w' by
        have := countLoopEndings_any ((m : Int) - 1) (m - 1) l Wo (by omega) (by omega) (by omega)
        rw [hW] at this
        exact this)
      by_cases hqm : q < m
      · rw [if_pos hqm] at hst
        have HNX := Lib.hid hst
        obtain rfl := ha2 (by omega)
        obtain ⟨P, hP⟩ : ∃ P, q * W = P := ⟨_, rfl⟩
        rw [hP] at hqW
        have e2 : (q : Int) * (W : Int) = (P : Int) := by rw [← hP]; simp
        have e3 : IntKind.i64.wrap (P : Int) = (P : Int) := by rw [IntKind.wrap_i64]; omega
        have e4 : (r : Int) - (P : Int) = ((r - P : Nat) : Int) := by omega
        have e5 : IntKind.i64.wrap ((r - P : Nat) : Int) = ((r - P : Nat) : Int) := by rw [IntKind.wrap_i64]; omega
        have HPP := Lib.hid hP
        obtain ⟨r2, hr2⟩ : ∃ r2, r - P = r2 := ⟨_, rfl⟩
        rw [hr2] at e4 e5
        have HR2 := Lib.hid hr2
        have e6 : ((q : Int) == (m : Int)) = false := beq_eq_false_iff_ne.2 (by omega)
        have e7 : IntKind.i64.wrap ((q : Int) + 1) = (q : Int) + 1 := by rw [IntKind.wrap_i64]; omega
        have q0 : 0 ≤ (q : Int) := by omega
        have q1 : (q : Int) < (m : Int) := by omega
        have cc := HC.out q hqm
        obtain ⟨y, hy⟩ : ∃ y, op.getD q 0 = y := ⟨_, rfl⟩
        rw [hy] at cc
        have HY := Lib.hid hy
        have HQM := Lib.hid hqm
        have HMM := Lib.hid hm
        have emin : min (q : Int) (m : Int) = (q : Int) := by omega
        clear hst hI hJ hc2 ha1 ha2 hmW hst2 hP hq hl hW hr2 hy hS hA hO hm
        go_wp2_with (first
          | (go_at_call 50; (with_reducible refine (HWAY.out _).mono ?_); rintro e w1 ⟨rfl, rfl⟩)
          | (at_builtin; refine wpList_append_byte rfl _ _ rfl w.heap.size _ out i HI1.out.symm rfl HI.out y _ rfl rfl (by omega) hz ?_; intro g4 cap4 w4 hI4 hg4 hl4; have HI4 := Lib.hid hI4; have hz4 := hg4.size; have hP4 := HJ.out.apart HA.out hg4 hl4; have HJ4 := Lib.hid hP4.1; have HA4 := Lib.hid hP4.2; have HB4 := Lib.hid (HI.out.below hB hz hg4); clear hI4 hg4 hl4 hP4)
          | (go_at_call 79; (with_reducible refine (delete_ownL _ w.heap.size g2 c2 m q op HJ4.out (by rw [HMM.out]; exact HQM.out) HMM.out.symm).mono ?_); rintro e w5 ⟨m5, hm5, rfl, hJ5, hg5⟩; have HM5 := Lib.hid hm5; have HJ5 := Lib.hid hJ5; have HG5 := Lib.hid hg5; clear hm5 hJ5 hg5))
        go_roundw
        case rel => exact ⟨i + 1, by omega, by rw [HNX.out]; simp only [HPP.out, HR2.out], by rw [HNX.out]; simp only [HE1.out], by rw [HNX.out, HY.out]; exact HI4.out.kept HG5.out (.inr fun e => HA4.out e.symm), by rw [HNX.out]; exact HJ5.out, fun g hg e => HA4.out (e.trans hg.symm), HB4.out.grown HG5.out (by omega) (fun k hk => by cases hk; exact (HJ4.out.own g2 rfl).1)⟩
        case measure => simp [sliceLen]; omega
      · rw [if_neg hqm] at hst
        have HNX := Lib.hid hst
        have hmW2 := hmW hqm
        obtain ⟨P, hP⟩ : ∃ P, m * W = P := ⟨_, rfl⟩
        rw [hP] at hmW2
        have e2 : (m : Int) * (W : Int) = (P : Int) := by rw [← hP]; simp
        have e3 : IntKind.i64.wrap (P : Int) = (P : Int) := by rw [IntKind.wrap_i64]; omega
        have e4 : (r : Int) - (P : Int) = ((r - P : Nat) : Int) := by omega
        have HPP := Lib.hid hP
        obtain ⟨r2, hr2⟩ : ∃ r2, r - P = r2 := ⟨_, rfl⟩
        rw [hr2] at e4
        have e5 : IntKind.i64.wrap (r2 : Int) = (r2 : Int) := by rw [IntKind.wrap_i64]; omega
        have HR2 := Lib.hid hr2
        rw [hst] at hnx1
        simp only at hnx1
        have e7 : (n : Int) - (l : Int) = (nx : Int) := by omega
        have e8 : IntKind.i64.wrap (nx : Int) = (nx : Int) := by rw [IntKind.wrap_i64]; omega
        have e9 : IntKind.i64.wrap ((l : Int) - 1) = (l : Int) - 1 := by rw [IntKind.wrap_i64]; omega
        have HLL := Lib.hid (show (l : Int) - 1 = (n : Int) - ((nx + 1 : Nat) : Int) by omega)
        have m0 : 0 ≤ (m : Int) := by omega
        have m1 : (m : Int) < ((m + 1 : Nat) : Int) := by omega
        obtain ⟨y, hy⟩ : ∃ y, lt8 nx = y := ⟨_, rfl⟩
        have HY := Lib.hid hy
        have HLET := Lib.hid (fun Wo => show Calls Try.prog 78 #[.int .i64 nx] Wo fun e w' => e = .returned (.int .u8 (y.toNat : Int)) ∧ Wo = w' by rw [← hy]; exact letterOf_lt nx Wo (by omega))
        have HMM := Lib.hid hm
        have emin : min (q : Int) (m : Int) = (m : Int) := by omega
        clear hst hI hJ hc2 ha1 ha2 hmW hst2 hP hq hl hW hr2 hy hS hA hO hm
        go_wp2_with (first
          | (go_at_call 50; (with_reducible refine (HWAY.out _).mono ?_); rintro e w1 ⟨rfl, rfl⟩)
          | (go_at_call 78; (with_reducible refine (HLET.out _).mono ?_); rintro e w1 ⟨rfl, rfl⟩)
          | (at_builtin; refine wpList_append_byte rfl _ _ rfl w.heap.size _ op m HMM.out.symm rfl HJ.out y _ rfl rfl (by omega) hz ?_; intro g4 cap4 w4 hJ4 hg4 hl4; have hz4 := hg4.size; have hP4 := HI.out.apart (fun q hq e => HA.out q e hq) hg4 hl4; have HI4 := Lib.hid hP4.1; have HA4 := Lib.hid hP4.2; have HB4 := Lib.hid (HJ.out.below hB hz hg4); have cc := (byo_cell hJ4 m (by simp [HMM.out])); (rw [show (op ++ [y]).getD m 0 = y by rw [getD_app, if_neg (by rw [HMM.out]; omega), if_pos HMM.out.symm]] at cc); have HJ4 := Lib.hid hJ4; clear hJ4 hg4 hl4 hP4)
          | (at_builtin; refine wpList_append_byte rfl _ _ rfl w.heap.size _ out i HI1.out.symm rfl HI4.out y _ rfl rfl (by omega) (by omega) ?_; intro g5 cap5 w5 hI5 hg5 hl5; have HI5 := Lib.hid hI5; have hz5 := hg5.size; have hP5 := HJ4.out.apart (fun q hq e => HA4.out (hq.trans e.symm)) hg5 hl5; have HJ5 := Lib.hid hP5.1; have HA5 := Lib.hid hP5.2; have HB5 := Lib.hid (HI4.out.below HB4.out (by omega) hg5); clear hI5 hg5 hl5 hP5))
        go_roundw
        case rel => exact ⟨i + 1, by omega, by rw [HNX.out]; simp only [HPP.out, HR2.out], by rw [HNX.out]; simp only [HLL.out], by rw [HNX.out, HY.out]; exact HI5.out, by rw [HNX.out, HY.out]; exact HJ5.out, fun g hg e => HA5.out (e.trans hg.symm), HB5.out⟩
        case measure => simp [sliceLen]; omega
    · obtain rfl : i = 2 * n := by omega
      have hI0 := HI.out
      obtain ⟨a9, c9, e9, hcv⟩ := convB _ _ _ _ hI0
      rw [i1] at e9 hcv
      cases e9
      have HOUT := Lib.hid (show rankedL n r0 = out by rw [HFIN.out, HS.out])
      clear hI hJ hc2 hI0
      go_wp2
      go_ret
      exact ⟨by rw [HOUT.out]; rfl, hB⟩

end Go.Proofs.Ytpcebcgmbngabab
