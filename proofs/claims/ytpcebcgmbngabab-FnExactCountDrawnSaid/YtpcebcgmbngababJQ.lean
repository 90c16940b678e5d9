/- Loops by rank: the model, and the law of LoopOfRank. -/
import Derived.Test.YtpcebcgmbngababJP
namespace Go.Proofs.Ytpcebcgmbngabab
open Go.RowKit
set_option linter.unusedVariables false

theorem tx_ext (l : List UInt8) (a b : Nat) : (txL l).extract a b = txL ((l.drop a).take (b - a)) := by
  apply ByteArray.ext
  apply Array.toList_inj.1
  rw [ByteArray.data_extract, Array.toList_extract, List.extract_eq_take_drop]
  simp [txL]

theorem tx_erase (l : List UInt8) (q : Nat) (h : q < l.length) : (txL l).extract 0 q ++ (txL l).extract (q + 1) l.length = txL (l.eraseIdx q) := by
  rw [tx_ext, tx_ext, txL_append, List.eraseIdx_eq_take_drop_succ]
  congr 2
  rw [List.take_of_length_le (by simp)]

def RelQ (w : World) (m W r q : Nat) (O P : ByteArray) (out op : List UInt8) (r' o' p' d k : Value) (wr : World) : Prop :=
  (∃ j rj : Nat, j ≤ m ∧ j * W + rj = r ∧ k = .int .i64 j ∧ r' = .int .i64 rj ∧ o' = .string O ∧ p' = .string P ∧ d = .bool false ∧ Below w.heap.size w wr) ∨ (∃ Y E : ByteArray, ∃ r2 : Nat, q < m ∧ r2 = r - q * W ∧ Y = txL (out ++ [op.getD q 0]) ∧ E = txL (op.eraseIdx q) ∧ E.size = m - 1 ∧ k = .int .i64 ((q : Int) + 1) ∧ r' = .int .i64 r2 ∧ o' = .string Y ∧ p' = .string E ∧ d = .bool true ∧ Below w.heap.size w wr)

set_option maxHeartbeats 4000000 in
set_option maxRecDepth 100000 in
theorem loRanked_any (n r0 : Nat) (w : World) (hn : n ≤ 8) (hr : r0 < waysN 0 n) :
    Calls Try.prog 51 #[.int .i64 n, .int .i64 r0] w fun e w' => e = .returned (.string (txL (rankedL n r0))) ∧ Below w.heap.size w w' := by
  have HIV := Lib.hid (fun i hi => rankTo_inv n r0 hr i hi)
  have HST := Lib.hid (fun i => show rankTo n r0 (i + 1) = rankStep n (rankTo n r0 i) from rfl)
  have H0 : rankTo n r0 0 = ⟨[], [], 0, r0⟩ := rfl
  have HFIN : Hid (rankedL n r0 = (rankTo n r0 (2 * n)).out) := Lib.hid rfl
  have HWB := Lib.hid (fun o l (h : o + l ≤ 9) => And.intro (waysN_pos o l) (waysN_le o l h))
  have hw2n : IntKind.i64.wrap (2 * (n : Int)) = 2 * (n : Int) := by rw [IntKind.wrap_i64]; omega
  obtain ⟨F, hF⟩ : ∃ F, rankTo n r0 = F := ⟨_, rfl⟩
  rw [hF] at HIV HST H0 HFIN
  clear hF hr
  go_enter Try.func51, Try.ntmps51
  go_wp2
  go_loopw [1, 5, 6, 7] (fun r s o l wr => ∃ i : Nat, i ≤ 2 * n ∧ r = .int .i64 (F i).r ∧ l = .int .i64 (F i).nx ∧ s = .string (txL (F i).out) ∧ o = .string (txL (F i).op) ∧ Below w.heap.size w wr) (fun _ s _ _ _ => 2 * n - (match s with | .string b => b.size | _ => 0))
  case atStart => exact ⟨0, by omega, by rw [H0], by rw [H0]; rfl, by rw [H0]; rfl, by rw [H0]; rfl, Below.refl _ _⟩
  case round =>
    obtain ⟨wo, rfl⟩ : ∃ z, z = wr := ⟨wr, rfl⟩
    obtain ⟨i, hi, rfl, rfl, rfl, rfl, hB⟩ := hrel
    have hiv := HIV.out i hi
    have hst := HST.out i
    obtain ⟨S, hS⟩ : ∃ S, F i = S := ⟨_, rfl⟩
    rw [hS] at hiv hst ⊢
    have HS := Lib.hid hS
    obtain ⟨out, op, nx, r⟩ := S
    obtain ⟨i1, i2, i3, i4, i5⟩ := hiv
    simp only at i1 i2 i3 i4 i5 ⊢
    have HB := Lib.hid hB
    have HI1 := Lib.hid i1
    have hso := txL_size out
    rw [i1] at hso
    obtain ⟨O, hO⟩ : ∃ O, txL out = O := ⟨_, rfl⟩
    rw [hO] at hso ⊢
    have HO := Lib.hid hO
    clear hB hO
    by_cases hlt : i < 2 * n
    · have hltI : (i : Int) < 2 * (n : Int) := by omega
      obtain ⟨m, hm⟩ : ∃ m, op.length = m := ⟨_, rfl⟩
      have hsp := txL_size op
      rw [hm] at hsp i2 i4 i5
      obtain ⟨P, hP⟩ : ∃ P, txL op = P := ⟨_, rfl⟩
      rw [hP] at hsp ⊢
      have HP := Lib.hid hP
      have HM := Lib.hid hm
      obtain ⟨l, hl⟩ : ∃ l, n - nx = l := ⟨_, rfl⟩
      have e1 : (n : Int) - (nx : Int) = (l : Int) := by omega
      have e1w : IntKind.i64.wrap (l : Int) = (l : Int) := by rw [IntKind.wrap_i64]; omega
      have hnx1 := (HIV.out (i + 1) (by omega)).nx
      have hwb := HWB.out (m - 1) l (by omega)
      obtain ⟨W, hW⟩ : ∃ W, waysN (m - 1) l = W := ⟨_, rfl⟩
      have hst2 : rankStep n ⟨out, op, nx, r⟩ = if r / W < m then ⟨out ++ [op.getD (r / W) 0], op.eraseIdx (r / W), nx, r - r / W * W⟩ else ⟨out ++ [lt8 nx], op ++ [lt8 nx], nx + 1, r - m * W⟩ := by
        unfold rankStep RkS.ways
        simp only [hm, hl, hW]
      rw [hst2] at hst
      rw [hW] at hwb
      obtain ⟨hW1, hW2⟩ := hwb
      have hr9 : r < 34459425 := by have := (HWB.out m l (by omega)).2; rw [hl] at i5; omega
      have HDIV := Lib.hid (fun j rj (h : j * W + rj = r) (h2 : rj < W) => show r / W = j by
        rw [← h, Nat.mul_comm, Nat.mul_add_div hW1, Nat.div_eq_of_lt h2]; rfl)
      have HWAY := Lib.hid (fun (h1 : 1 ≤ m) Wo => show Calls Try.prog 54 #[.int .i64 ((m : Int) - 1), .int .i64 l] Wo fun e w' => e = .returned (.int .i64 W) ∧ Wo = w' by
        have := loWays_any (m - 1) l Wo (by omega)
        rw [hW, show ((m - 1 : Nat) : Int) = (m : Int) - 1 by omega] at this
        exact this)
      have em : IntKind.i64.wrap ((m : Int) - 1) = (m : Int) - 1 := by rw [IntKind.wrap_i64]; omega
      obtain ⟨q, hq⟩ : ∃ q, r / W = q := ⟨_, rfl⟩
      rw [hq] at hst
      have HQ := Lib.hid hq
      have HST2 := Lib.hid hst
      clear hst hst2 hq hW hP hl hS hm
      go_wp2
      go_loopw [1, 5, 6, 8, 9] (fun r' o' p' d k wr => RelQ w m W r q O P out op r' o' p' d k wr) (fun _ _ _ _ k _ => m + 1 - (intOf k).toNat)
      case atStart => exact Or.inl ⟨0, r, by omega, by simp, rfl, rfl, rfl, rfl, rfl, HB.out⟩
      case round =>
        rcases hrel with ⟨j, rj, hj, hjr, rfl, rfl, rfl, rfl, rfl, hB2⟩ | ⟨Y, E, r2, hqm, hr2, hY, hE, hEs, rfl, rfl, rfl, rfl, rfl, hB2⟩
        · have HB2 := Lib.hid hB2
          clear hB2
          by_cases hjm : j < m
          · have hrj : rj ≤ r := by omega
            by_cases hlt2 : rj < W
            · have hqj : q = j := by rw [← HQ.out]; exact HDIV.out j rj hjr hlt2
              subst hqj
              have hjs : q < P.size := by omega
              have hlt3 : (rj : Int) < (W : Int) := by omega
              have hone := tx_one P q hjs
              rw [show P.data.toList = op by rw [← HP.out]; rfl] at hone
              have hadd := txAdd O (P.extract q (q + 1)) (by rw [hone, txL_size]; simp; omega)
              rw [show O ++ P.extract q (q + 1) = txL (out ++ [op.getD q 0]) by rw [hone, ← HO.out, txL_append]] at hadd
              have her := tx_erase op q (by rw [HM.out]; exact hjm)
              rw [HP.out, HM.out] at her
              have hadd2 := txAdd (P.extract 0 q) (P.extract (q + 1) m) (by rw [ByteArray.size_extract, ByteArray.size_extract]; omega)
              rw [her] at hadd2
              have hEs : (txL (op.eraseIdx q)).size = m - 1 := by rw [txL_size, List.length_eraseIdx_of_lt (by rw [HM.out]; exact hjm), HM.out]
              obtain ⟨Y, hY⟩ : ∃ Y, txL (out ++ [op.getD q 0]) = Y := ⟨_, rfl⟩
              obtain ⟨E, hE⟩ : ∃ E, txL (op.eraseIdx q) = E := ⟨_, rfl⟩
              rw [hY] at hadd
              rw [hE] at hadd2 hEs
              have HY := Lib.hid hY
              have HE := Lib.hid hE
              have HES := Lib.hid hEs
              have HR := Lib.hid (show rj = r - q * W by omega)
              have e7 : IntKind.i64.wrap ((q : Int) + 1) = (q : Int) + 1 := by rw [IntKind.wrap_i64]; omega
              have q0 : 0 ≤ (q : Int) := by omega
              have q1 : (q : Int) < (m : Int) := by omega
              have q2 : (q : Int) + 1 ≤ (m : Int) := by omega
              have q3 : (q : Int) ≤ (q : Int) + 1 := by omega
              have q4 : 0 ≤ (q : Int) + 1 := by omega
              have q5 : ((q : Int) + 1).toNat = q + 1 := by omega
              have q6 : (q : Int) ≤ (m : Int) := by omega
              clear hone her hY hE hEs
              go_wp2_with (first | (go_at_call 54; (with_reducible refine (HWAY.out (by omega) _).mono ?_); rintro e w1 ⟨rfl, rfl⟩))
              go_quiet (fail)
              go_wp2
              go_roundw
              case rel => exact Or.inr ⟨Y, E, rj, hjm, HR.out, HY.out.symm, HE.out.symm, HES.out, rfl, rfl, rfl, rfl, rfl, by first | exact HB2.out | exact bdn HB2.out _⟩
              case measure => simp [intOf]; omega
            · have hlt3 : ¬ (rj : Int) < (W : Int) := by omega
              have e8 : (rj : Int) - (W : Int) = ((rj - W : Nat) : Int) := by omega
              obtain ⟨r3, hr3⟩ : ∃ r3, rj - W = r3 := ⟨_, rfl⟩
              rw [hr3] at e8
              have e9 : IntKind.i64.wrap (r3 : Int) = (r3 : Int) := by rw [IntKind.wrap_i64]; omega
              have HR3 := Lib.hid (show (j + 1) * W + r3 = r by rw [Nat.add_mul, Nat.one_mul]; omega)
              clear hr3
              go_wp2_with (first | (go_at_call 54; (with_reducible refine (HWAY.out (by omega) _).mono ?_); rintro e w1 ⟨rfl, rfl⟩))
              go_roundw
              case rel => exact Or.inl ⟨j + 1, r3, by omega, HR3.out, by go_num, rfl, rfl, rfl, rfl, HB2.out⟩
              case measure => simp [intOf]; omega
          · obtain rfl : j = m := by omega
            have hge : j * W ≤ r := by omega
            have hqj : ¬ q < j := by
              rw [← HQ.out]
              exact Nat.not_lt.2 ((Nat.le_div_iff_mul_le hW1).2 hge)
            have HNX : Hid (F (i + 1) = ⟨out ++ [lt8 nx], op ++ [lt8 nx], nx + 1, r - j * W⟩) := Lib.hid (by rw [HST2.out, if_neg hqj])
            rw [HNX.out] at hnx1
            simp only at hnx1
            have hab := abc_one ⟨nx, by omega⟩
            simp only at hab
            have hadd := txAdd O ((⟨#[97, 98, 99, 100, 101, 102, 103, 104, 105, 106, 107, 108, 109, 110, 111, 112]⟩ : ByteArray).extract nx (nx + 1)) (by rw [hab, txL_size]; simp; omega)
            rw [show O ++ (⟨#[97, 98, 99, 100, 101, 102, 103, 104, 105, 106, 107, 108, 109, 110, 111, 112]⟩ : ByteArray).extract nx (nx + 1) = txL (out ++ [lt8 nx]) by rw [hab, ← HO.out, txL_append]] at hadd
            have hadd2 := txAdd P ((⟨#[97, 98, 99, 100, 101, 102, 103, 104, 105, 106, 107, 108, 109, 110, 111, 112]⟩ : ByteArray).extract nx (nx + 1)) (by rw [hab, txL_size]; simp; omega)
            rw [show P ++ (⟨#[97, 98, 99, 100, 101, 102, 103, 104, 105, 106, 107, 108, 109, 110, 111, 112]⟩ : ByteArray).extract nx (nx + 1) = txL (op ++ [lt8 nx]) by rw [hab, ← HP.out, txL_append]] at hadd2
            have hYs := txL_size (out ++ [lt8 nx])
            obtain ⟨Y, hY⟩ : ∃ Y, txL (out ++ [lt8 nx]) = Y := ⟨_, rfl⟩
            rw [hY] at hadd hYs
            have HY := Lib.hid hY
            have HYS := Lib.hid (show Y.size = i + 1 by rw [hYs]; simp [HI1.out])
            have HR := Lib.hid (show rj = r - j * W by omega)
            have e10 : IntKind.i64.wrap ((nx : Int) + 1) = (nx : Int) + 1 := by rw [IntKind.wrap_i64]; omega
            clear hab hY hYs
            go_wp2
            go_roundw
            case rel => exact ⟨i + 1, by omega, by rw [HNX.out]; simp only [HR.out], by rw [HNX.out]; go_num, by rw [HNX.out, HY.out], by rw [HNX.out], HB2.out⟩
            case measure => simp only [HYS.out]; omega
        · have HB2 := Lib.hid hB2
          have HNX : Hid (F (i + 1) = ⟨out ++ [op.getD q 0], op.eraseIdx q, nx, r - q * W⟩) := Lib.hid (by rw [HST2.out, if_pos hqm])
          have HR2 := Lib.hid hr2
          have HY := Lib.hid hY
          have HE := Lib.hid hE
          have HYS := Lib.hid (show Y.size = i + 1 by rw [hY, txL_size]; simp [HI1.out])
          clear hB2 hr2 hY hE
          by_cases hk : (q : Int) + 1 < ((m - 1 : Nat) : Int)
          · go_wp2
            go_roundw
            case rel => exact ⟨i + 1, by omega, by rw [HNX.out]; simp only [HR2.out], by rw [HNX.out], by rw [HNX.out, HY.out], by rw [HNX.out, HE.out], HB2.out⟩
            case measure => simp only [HYS.out]; omega
          · go_wp2
            go_roundw
            case rel => exact ⟨i + 1, by omega, by rw [HNX.out]; simp only [HR2.out], by rw [HNX.out], by rw [HNX.out, HY.out], by rw [HNX.out, HE.out], HB2.out⟩
            case measure => simp only [HYS.out]; omega
    · obtain rfl : i = 2 * n := by omega
      have HOUT := Lib.hid (show txL (rankedL n r0) = O by rw [HFIN.out, HS.out, ← HO.out])
      clear hS
      go_wp2
      go_ret
      exact ⟨by rw [HOUT.out]; rfl, HB.out⟩

end Go.Proofs.Ytpcebcgmbngabab
