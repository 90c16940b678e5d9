/- Ranks of loops: both sides, and the law of RankOfLoop. -/
import Derived.Test.YtpcebcgmbngababJQ
import Derived.Test.YtpcebcgmbngababJ3
import Derived.Test.YtpcebcgmbngababJ5
namespace Go.Proofs.Ytpcebcgmbngabab
open Go.RowKit
set_option linter.unusedVariables false

set_option maxHeartbeats 4000000 in
set_option maxRecDepth 100000 in
theorem rank_any (t : ByteArray) (a0 : Option Addr) (n cap : Nat) (w : World) (hts : t.size = 2 * n) (hn8 : n ≤ 8) (hc : ∀ j, j < t.data.toList.length → cntL t.data.toList (t.data.toList.getD j 0) = 2) :
    Calls Try.prog 56 #[.agg #[.slice a0 n cap, .string t]] w fun e w' => e = .returned (.int .i64 (rankL t.data.toList)) ∧ Below w.heap.size w w' := by
  have hlen := tx_len t
  have HIV := Lib.hid (fun i (hi : i ≤ 2 * n) => roTo_inv t.data.toList (by omega) hc i (by omega))
  have HFW := Lib.hid (fun i (hi : i ≤ 2 * n) => (roTo_inv t.data.toList (by omega) hc i (by omega)).few (by omega) ((roTo_inv t.data.toList (by omega) hc i (by omega)).two' (by omega) hc))
  have HST := Lib.hid (fun i => show roTo t.data.toList (i + 1) = roStep n (roTo t.data.toList i) (t.data.toList.getD i 0) by rw [roTo, show t.data.toList.length / 2 = n by omega])
  have HFIN : Hid (rankL t.data.toList = (roTo t.data.toList (2 * n)).r) := Lib.hid (by unfold rankL; rw [show t.data.toList.length = 2 * n by omega])
  have H0 : roTo t.data.toList 0 = ⟨[], 0, 0⟩ := rfl
  have HWB := Lib.hid (fun o l (h : o + l ≤ 9) => And.intro (waysN_pos o l) (waysN_le o l h))
  have HT := Lib.hid (fun k (h : k < t.size) => tx_get t k h)
  have HLEN := Lib.hid hlen
  obtain ⟨R, hR⟩ : ∃ R, rankL t.data.toList = R := ⟨_, rfl⟩
  obtain ⟨F, hF⟩ : ∃ F, roTo t.data.toList = F := ⟨_, rfl⟩
  rw [hF] at HIV HFW HST H0 HFIN
  rw [hR] at HFIN ⊢
  clear hF hR hlen hc
  go_enter Try.func56, Try.ntmps56
  go_wp2
  go_quiet (fail)
  go_wp2
  go_loopw [3, 4, 5, 15] (fun r l o i wr => ∃ k : Nat, k ≤ 2 * n ∧ i = .int .i64 k ∧ r = .int .i64 (F k).r ∧ l = .int .i64 ((n : Int) - (F k).nx) ∧ ByO wr (w.heap.size + 1) o (F k).op ∧ Below (w.heap.size + 1) (w.alloc (.cells #[.slice a0 n cap, .string t] 71)) wr) (fun _ _ _ i _ => 2 * n - (intOf i).toNat)
  case atStart => exact ⟨0, by omega, rfl, by rw [H0]; rfl, by rw [H0]; simp, by rw [H0]; exact ByO.nil _ _, bdn (Below.refl _ _) _⟩
  case round =>
    obtain ⟨i, hi, rfl, rfl, rfl, hJ, hB⟩ := hrel
    have hz := hB.size
    rw [World.size_alloc] at hz
    have hiv := HIV.out i hi
    have hfw := HFW.out i hi
    have hst := HST.out i
    have cS : wr.cell? ⟨w.heap.size, 1, none⟩ = some (.string t) := (hB.cell (p := ⟨w.heap.size, 1, none⟩) (by simp)).trans (by go_simp)
    have hcs : w.heap.size ≠ wr.heap.size := by omega
    obtain ⟨S, hS⟩ : ∃ S, F i = S := ⟨_, rfl⟩
    rw [hS] at hiv hfw hst hJ ⊢
    have HS := Lib.hid hS
    obtain ⟨op, nx, r⟩ := S
    obtain ⟨i1, i2, i3, i4, i5⟩ := hiv
    simp only at i1 i2 i4 i5 hJ hfw ⊢
    rw [HLEN.out] at hfw
    obtain ⟨a2, c2, g2, rfl, ha2, hn2, hm2, hg2, hc2, -⟩ := hJ.view
    have HB := Lib.hid hB
    by_cases hlt : i < 2 * n
    · have hilt : i < t.size := by omega
      obtain ⟨c, hcc⟩ : ∃ c, t.data.toList.getD i 0 = c := ⟨_, rfl⟩
      have hg := HT.out i hilt
      rw [hcc] at hst hg
      obtain ⟨d, hd2⟩ : ∃ d, c.toNat = d := ⟨_, rfl⟩
      have HD2 := Lib.hid hd2
      have htd : (t[i]'hilt).toNat = d := by rw [hg]; exact hd2
      have hi0 : 0 ≤ (i : Int) := by omega
      have hi1 : (i : Int) < (t.size : Int) := by omega
      obtain ⟨m, hm⟩ : ∃ m, op.length = m := ⟨_, rfl⟩
      rw [hm] at hJ hc2 ha2 hn2 i1 hfw ⊢
      have HMM := Lib.hid hm
      have HJ := Lib.hid hJ
      have HC := Lib.hid hc2
      obtain ⟨l, hl⟩ : ∃ l, n - nx = l := ⟨_, rfl⟩
      have e1 : (n : Int) - (nx : Int) = (l : Int) := by omega
      have HE1 := Lib.hid e1
      have hwb := HWB.out (m - 1) l (by omega)
      obtain ⟨W, hW⟩ : ∃ W, waysN (m - 1) l = W := ⟨_, rfl⟩
      obtain ⟨q, hq⟩ : ∃ q, op.idxOf c = q := ⟨_, rfl⟩
      have HQ := Lib.hid hq
      have hst2 : roStep n ⟨op, nx, r⟩ c = if q < m then ⟨op.eraseIdx q, nx, r + q * W⟩ else ⟨op ++ [c], nx + 1, r + m * W⟩ := by
        unfold roStep
        simp only [hm, hl, hW, hq]
      rw [hst2] at hst
      rw [hW] at hwb
      obtain ⟨hW1, hW2⟩ := hwb
      have em : IntKind.i64.wrap ((m : Int) - 1) = (m : Int) - 1 := by rw [IntKind.wrap_i64]; omega
      have HWAY := Lib.hid (fun Wo => show Calls Try.prog 50 #[.int .i64 ((m : Int) - 1), .int .i64 l] Wo fun e w' => e = .returned (.int .i64 W) ∧ Wo = w' by
        have := countLoopEndings_any ((m : Int) - 1) (m - 1) l Wo (by omega) (by omega) (by omega)
        rw [hW] at this
        exact this)
      have HIDX := Lib.hid (fun v (hv : (if q < m then (q : Int) else -1) = v) => show Calls Try.prog 81 #[.slice a2 m c2, .int .u8 d] wr fun e w' => e = .returned (.int .i64 v) ∧ wr = w' by
        have := indexB_any a2 g2 m c2 op c wr hm (by omega) ha2 hc2
        rw [hq, hv, hd2] at this
        exact this)
      have e7 : IntKind.i64.wrap ((i : Int) + 1) = (i : Int) + 1 := by rw [IntKind.wrap_i64]; omega
      by_cases hqm : q < m
      · rw [if_pos hqm] at hst
        have HNX := Lib.hid hst
        obtain rfl := ha2 (by omega)
        have hIX := HIDX.out q (if_pos hqm)
        have HIX := Lib.hid hIX
        have hmul := Nat.mul_le_mul (show q ≤ 16 by omega) hW2
        obtain ⟨P, hP⟩ : ∃ P, q * W = P := ⟨_, rfl⟩
        rw [hP] at hmul
        have e2 : (q : Int) * (W : Int) = (P : Int) := by rw [← hP]; simp
        have e3 : IntKind.i64.wrap (P : Int) = (P : Int) := by rw [IntKind.wrap_i64]; omega
        have e4 : (r : Int) + (P : Int) = ((r + P : Nat) : Int) := by omega
        obtain ⟨r2, hr2⟩ : ∃ r2, r + P = r2 := ⟨_, rfl⟩
        rw [hr2] at e4
        have e5 : IntKind.i64.wrap (r2 : Int) = (r2 : Int) := by rw [IntKind.wrap_i64]; omega
        have HR2 := Lib.hid (show r + q * W = r2 by rw [hP]; exact hr2)
        have e6 : IntKind.i64.wrap ((q : Int) + 1) = (q : Int) + 1 := by rw [IntKind.wrap_i64]; omega
        have HQM := Lib.hid hqm
        have q0 : ¬ (q : Int) < 0 := by omega
        clear hst hJ hc2 ha2 hst2 hP hq hl hW hr2 hS hm hcc hg hd2 hIX hB
        go_wp2_with (first
          | (go_at_call 50; (with_reducible refine (HWAY.out _).mono ?_); rintro e w1 ⟨rfl, rfl⟩)
          | (go_at_call 81; (with_reducible refine HIX.out.mono ?_); rintro e w1 ⟨rfl, rfl⟩)
          | (go_at_call 79; (with_reducible refine (delete_ownL _ (w.heap.size + 1) g2 c2 m q op HJ.out (by rw [HMM.out]; exact HQM.out) HMM.out.symm).mono ?_); rintro e w5 ⟨m5, hm5, rfl, hJ5, hg5⟩; have HM5 := Lib.hid hm5; have HJ5 := Lib.hid hJ5; have HG5 := Lib.hid hg5; clear hm5 hJ5 hg5))
        go_roundw
        case rel => exact ⟨i + 1, by omega, by go_num, by rw [HNX.out]; simp only [HR2.out], by rw [HNX.out]; simp only [HE1.out], by rw [HNX.out]; exact HJ5.out, HB.out.grown HG5.out hz (fun k hk => by cases hk; exact (HJ.out.own g2 rfl).1)⟩
        case measure => simp [intOf]; omega
      · rw [if_neg hqm] at hst
        have HNX := Lib.hid hst
        have hIX := HIDX.out (-1) (if_neg hqm)
        have HIX := Lib.hid hIX
        have hmul := Nat.mul_le_mul (show m ≤ 16 by omega) hW2
        obtain ⟨P, hP⟩ : ∃ P, m * W = P := ⟨_, rfl⟩
        rw [hP] at hmul
        have e2 : (m : Int) * (W : Int) = (P : Int) := by rw [← hP]; simp
        have e3 : IntKind.i64.wrap (P : Int) = (P : Int) := by rw [IntKind.wrap_i64]; omega
        have e4 : (r : Int) + (P : Int) = ((r + P : Nat) : Int) := by omega
        obtain ⟨r2, hr2⟩ : ∃ r2, r + P = r2 := ⟨_, rfl⟩
        rw [hr2] at e4
        have e5 : IntKind.i64.wrap (r2 : Int) = (r2 : Int) := by rw [IntKind.wrap_i64]; omega
        have HR2 := Lib.hid (show r + m * W = r2 by rw [hP]; exact hr2)
        have e9 : IntKind.i64.wrap ((l : Int) - 1) = (l : Int) - 1 := by rw [IntKind.wrap_i64]; omega
        have hiv2 := HIV.out (i + 1) (by omega)
        have hfw2 := HFW.out (i + 1) (by omega)
        rw [hst] at hiv2 hfw2
        have htw := hiv2.two
        simp only at htw hfw2
        rw [HLEN.out] at hfw2
        have HLL := Lib.hid (show (l : Int) - 1 = (n : Int) - ((nx + 1 : Nat) : Int) by omega)
        clear hst hJ hc2 ha2 hst2 hP hq hl hW hr2 hS hm hcc hg hIX hB hiv2 hfw2 htw
        subst hd2
        go_wp2_with (first
          | (go_at_call 50; (with_reducible refine (HWAY.out _).mono ?_); rintro e w1 ⟨rfl, rfl⟩)
          | (go_at_call 81; (with_reducible refine HIX.out.mono ?_); rintro e w1 ⟨rfl, rfl⟩)
          | (at_builtin; refine wpList_append_byte rfl _ _ rfl (w.heap.size + 1) _ op m HMM.out.symm rfl HJ.out c _ rfl rfl (by omega) hz ?_; intro g4 cap4 w4 hJ4 hg4 hl4; have HB4 := Lib.hid (HJ.out.below HB.out hz hg4); have HJ4 := Lib.hid hJ4; clear hJ4 hg4 hl4))
        go_roundw
        case rel => exact ⟨i + 1, by omega, by go_num, by rw [HNX.out]; simp only [HR2.out], by rw [HNX.out]; simp only [HLL.out], by rw [HNX.out]; exact HJ4.out, HB4.out⟩
        case measure => simp [intOf]; omega
    · obtain rfl : i = 2 * n := by omega
      have HOUT := Lib.hid (show R = r by rw [HFIN.out, HS.out])
      clear hJ hc2 hS hB
      go_wp2
      go_ret
      exact ⟨by rw [HOUT.out]; rfl, Below.trans (by go_grown) (HB.out.mono (by omega))⟩

def RelR (w : World) (m W r q : Nat) (P E : ByteArray) (r' p' d k : Value) (wr : World) : Prop :=
  (∃ j rj : Nat, j ≤ q ∧ j ≤ m ∧ r + j * W = rj ∧ k = .int .i64 j ∧ r' = .int .i64 rj ∧ p' = .string P ∧ d = .bool false ∧ Below w.heap.size w wr) ∨ (∃ r2 : Nat, q < m ∧ r + q * W = r2 ∧ k = .int .i64 ((q : Int) + 1) ∧ r' = .int .i64 r2 ∧ p' = .string E ∧ d = .bool true ∧ Below w.heap.size w wr)

set_option maxHeartbeats 4000000 in
set_option maxRecDepth 100000 in
theorem sRankOfLoop_yes' (t : ByteArray) (n : Nat) (w : World) (ht : t.size ≤ 1048576) (hts : t.size = 2 * n) (hn8 : n ≤ 8) (hg : goodL t.data.toList = true) (hc : ∀ j, j < t.data.toList.length → cntL t.data.toList (t.data.toList.getD j 0) = 2) :
    Calls Try.prog 16 #[.string t] w fun e w' => e = .returned (.tuple #[.int .i64 (rankL t.data.toList), .bool true]) ∧ Below w.heap.size w w' := by
  have HG := Lib.hid hg
  have hlen := tx_len t
  have HIV := Lib.hid (fun i (hi : i ≤ 2 * n) => roTo_inv t.data.toList (by omega) hc i (by omega))
  have HFW := Lib.hid (fun i (hi : i ≤ 2 * n) => (roTo_inv t.data.toList (by omega) hc i (by omega)).few (by omega) ((roTo_inv t.data.toList (by omega) hc i (by omega)).two' (by omega) hc))
  have HST := Lib.hid (fun i => show roTo t.data.toList (i + 1) = roStep n (roTo t.data.toList i) (t.data.toList.getD i 0) by rw [roTo, show t.data.toList.length / 2 = n by omega])
  have HFIN : Hid (rankL t.data.toList = (roTo t.data.toList (2 * n)).r) := Lib.hid (by unfold rankL; rw [show t.data.toList.length = 2 * n by omega])
  have H0 : roTo t.data.toList 0 = ⟨[], 0, 0⟩ := rfl
  have HWB := Lib.hid (fun o l (h : o + l ≤ 9) => And.intro (waysN_pos o l) (waysN_le o l h))
  have HT := Lib.hid (fun k (h : k < t.size) => And.intro (tx_get t k h) (tx_one t k h))
  have HLEN := Lib.hid hlen
  have htd2 : Int.tdiv (t.size : Int) 2 = (n : Int) := by rw [Int.tdiv_eq_ediv_of_nonneg (by omega)]; omega
  have hwn : IntKind.i64.wrap (n : Int) = (n : Int) := by rw [IntKind.wrap_i64]; omega
  obtain ⟨R, hR⟩ : ∃ R, rankL t.data.toList = R := ⟨_, rfl⟩
  obtain ⟨F, hF⟩ : ∃ F, roTo t.data.toList = F := ⟨_, rfl⟩
  rw [hF] at HIV HFW HST H0 HFIN
  rw [hR] at HFIN ⊢
  obtain ⟨sz, hsz⟩ : ∃ sz, t.size = sz := ⟨_, rfl⟩
  rw [hsz] at htd2
  have HTS := Lib.hid (show sz = 2 * n by omega)
  clear hF hR hlen hc hg hts
  go_enter Try.func16, Try.ntmps16
  go_wp2_with (first | (go_at_call 53; (with_reducible refine (loGood_any t _ ht).mono ?_); rintro e w1 ⟨rfl, hb1⟩; rw [HG.out]))
  have HB1 := Lib.hid hb1
  clear hb1
  go_loopw [4, 5, 6, 7] (fun r o l i wr => ∃ k : Nat, k ≤ 2 * n ∧ i = .int .i64 k ∧ r = .int .i64 (F k).r ∧ l = .int .i64 (F k).nx ∧ o = .string (txL (F k).op) ∧ Below w.heap.size w wr) (fun _ _ _ i _ => 2 * n - (intOf i).toNat)
  case atStart => exact ⟨0, by omega, rfl, by rw [H0]; rfl, by rw [H0]; rfl, by rw [H0]; rfl, HB1.out⟩
  case round =>
    obtain ⟨wo, rfl⟩ : ∃ z, z = wr := ⟨wr, rfl⟩
    obtain ⟨i, hi, rfl, rfl, rfl, rfl, hB⟩ := hrel
    have hiv := HIV.out i hi
    have hfw := HFW.out i hi
    have hst := HST.out i
    obtain ⟨S, hS⟩ : ∃ S, F i = S := ⟨_, rfl⟩
    rw [hS] at hiv hfw hst ⊢
    have HS := Lib.hid hS
    obtain ⟨op, nx, r⟩ := S
    obtain ⟨i1, i2, i3, i4, i5⟩ := hiv
    simp only at i1 i2 i4 i5 hfw ⊢
    rw [HLEN.out] at hfw
    have hts := HTS.out
    have HB := Lib.hid hB
    clear hB
    by_cases hlt : i < 2 * n
    · have hilt : i < t.size := by omega
      obtain ⟨c, hcc⟩ : ∃ c, t.data.toList.getD i 0 = c := ⟨_, rfl⟩
      obtain ⟨hg, hone⟩ := HT.out i hilt
      rw [hcc] at hst hg hone
      obtain ⟨d, hd2⟩ : ∃ d, c.toNat = d := ⟨_, rfl⟩
      have HD2 := Lib.hid hd2
      have htd : (t[i]'hilt).toNat = d := by rw [hg]; exact hd2
      have hi0 : 0 ≤ (i : Int) := by omega
      have hi1 : (i : Int) < (sz : Int) := by omega
      obtain ⟨m, hm⟩ : ∃ m, op.length = m := ⟨_, rfl⟩
      have hsp := txL_size op
      rw [hm] at hsp i1 hfw
      obtain ⟨P, hP⟩ : ∃ P, txL op = P := ⟨_, rfl⟩
      rw [hP] at hsp ⊢
      have HP := Lib.hid hP
      have HMM := Lib.hid hm
      obtain ⟨l, hl⟩ : ∃ l, n - nx = l := ⟨_, rfl⟩
      have e1 : (n : Int) - (nx : Int) = (l : Int) := by omega
      have e1w : IntKind.i64.wrap (l : Int) = (l : Int) := by rw [IntKind.wrap_i64]; omega
      have hwb := HWB.out (m - 1) l (by omega)
      obtain ⟨W, hW⟩ : ∃ W, waysN (m - 1) l = W := ⟨_, rfl⟩
      obtain ⟨q, hq⟩ : ∃ q, op.idxOf c = q := ⟨_, rfl⟩
      have HQ := Lib.hid hq
      have HND := Lib.hid i2
      have hst2 : roStep n ⟨op, nx, r⟩ c = if q < m then ⟨op.eraseIdx q, nx, r + q * W⟩ else ⟨op ++ [c], nx + 1, r + m * W⟩ := by
        unfold roStep
        simp only [hm, hl, hW, hq]
      rw [hst2] at hst
      rw [hW] at hwb
      obtain ⟨hW1, hW2⟩ := hwb
      have em : IntKind.i64.wrap ((m : Int) - 1) = (m : Int) - 1 := by rw [IntKind.wrap_i64]; omega
      have HWAY := Lib.hid (fun (h1 : 1 ≤ m) Wo => show Calls Try.prog 54 #[.int .i64 ((m : Int) - 1), .int .i64 l] Wo fun e w' => e = .returned (.int .i64 W) ∧ Wo = w' by
        have := loWays_any (m - 1) l Wo (by omega)
        rw [hW, show ((m - 1 : Nat) : Int) = (m : Int) - 1 by omega] at this
        exact this)
      have HADD := Lib.hid (show P ++ t.extract i (i + 1) = txL (op ++ [c]) by rw [hone, ← hP, txL_append])
      have hadd3 := txAdd P (t.extract i (i + 1)) (by rw [hone, txL_size]; simp; omega)
      rw [HADD.out] at hadd3
      have hqm16 : q ≤ m := by rw [← hq, ← hm]; exact List.idxOf_le_length
      have HST2 := Lib.hid hst
      have hmulb := fun j (hj : j ≤ 16) => Nat.mul_le_mul hj hW2
      have HMULB := Lib.hid hmulb
      obtain ⟨E, hE⟩ : ∃ E, txL (op.eraseIdx q) = E := ⟨_, rfl⟩
      have HE := Lib.hid hE
      clear hst hst2 hq hW hP hl hS hm hcc hone i2 hg hmulb hE hd2
      have hwi : IntKind.i64.wrap ((i : Int) + 1) = (i : Int) + 1 := by rw [IntKind.wrap_i64]; omega
      have hwnx : IntKind.i64.wrap ((nx : Int) + 1) = (nx : Int) + 1 := by rw [IntKind.wrap_i64]; omega
      clear hts hadd3
      go_wp2
      go_loopw [4, 5, 8, 9] (fun r' p' d' k wr => RelR w m W r q P E r' p' d' k wr) (fun _ _ _ k _ => m + 1 - (intOf k).toNat)
      case atStart => exact Or.inl ⟨0, r, by omega, by omega, by simp, rfl, rfl, rfl, rfl, HB.out⟩
      case round =>
        rcases hrel with ⟨j, rj, hjq, hjm, hjr, rfl, rfl, rfl, rfl, hB2⟩ | ⟨r2, hqm, hr2, rfl, rfl, rfl, rfl, hB2⟩
        · have HB2 := Lib.hid hB2
          clear hB2
          by_cases hjm2 : j < m
          · have hjs : j < P.size := by omega
            have hgm := txL_get op j (by rw [HP.out]; exact hjs)
            obtain ⟨y, hy⟩ : ∃ y, (P[j]'hjs).toNat = y := ⟨_, rfl⟩
            have hgy : (op.getD j 0).toNat = y := by rw [← hgm, ← hy]; congr 1; simp only [HP.out]
            have hmm := HMM.out
            have hcm : op.getD j 0 = c ↔ q = j := by
              constructor
              · intro e
                rw [← HQ.out, ← e, List.getD, List.getElem?_eq_getElem (by omega)]
                exact List.Nodup.idxOf_getElem HND.out j (by omega)
              · intro e
                have hl2 : op.idxOf c < op.length := by rw [HQ.out]; omega
                have hl3 := List.getElem_idxOf hl2
                simp only [HQ.out, e] at hl3
                rw [List.getD, List.getElem?_eq_getElem (by omega)]
                exact hl3
            have HCM := Lib.hid hcm
            have hj0 : 0 ≤ (j : Int) := by omega
            have hj1 : (j : Int) < (m : Int) := by omega
            have hmj := HMULB.out j (by omega)
            have e7 : IntKind.i64.wrap ((j : Int) + 1) = (j : Int) + 1 := by rw [IntKind.wrap_i64]; omega
            clear hgm hcm hmm
            by_cases hyd : y = d
            · have hqj : q = j := HCM.out.1 (UInt8.toNat_inj.1 (by rw [hgy, HD2.out, hyd]))
              subst hqj
              subst hyd
              have her := tx_erase op q (by rw [HMM.out]; exact hjm2)
              rw [HP.out, HMM.out, HE.out] at her
              have hadd2 := txAdd (P.extract 0 q) (P.extract (q + 1) m) (by rw [ByteArray.size_extract, ByteArray.size_extract]; omega)
              rw [her] at hadd2
              have HR := Lib.hid hjr
              have q2 : (q : Int) + 1 ≤ (m : Int) := by omega
              have q4 : 0 ≤ (q : Int) + 1 := by omega
              have q5 : ((q : Int) + 1).toNat = q + 1 := by omega
              have q6 : (q : Int) ≤ (m : Int) := by omega
              clear her hgy hjr
              go_wp2
              go_quiet (fail)
              go_wp2
              go_quiet (fail)
              go_wp2
              go_roundw
              case rel => exact Or.inr ⟨rj, hjm2, HR.out, rfl, rfl, rfl, rfl, by first | exact HB2.out | exact bdn HB2.out _ | exact bdn (bdn HB2.out _) _⟩
              case measure => simp [intOf]; omega
            · have hqj : ¬ q = j := fun e => hyd (by rw [← hgy, HCM.out.2 e, HD2.out])
              have hyd2 : ¬ (y : Int) = (d : Int) := by omega
              obtain ⟨r3, hr3⟩ : ∃ r3, rj + W = r3 := ⟨_, rfl⟩
              have e8 : (rj : Int) + (W : Int) = (r3 : Int) := by omega
              have e9 : IntKind.i64.wrap (r3 : Int) = (r3 : Int) := by rw [IntKind.wrap_i64]; omega
              have HR3 := Lib.hid (show r + (j + 1) * W = r3 by rw [Nat.add_mul, Nat.one_mul]; omega)
              have hjq2 : j + 1 ≤ q := by omega
              clear hgy hjr hr3 hqj
              go_wp2
              go_quiet (fail)
              go_wp2_with (first | (go_at_call 54; (with_reducible refine (HWAY.out (by omega) _).mono ?_); rintro e w1 ⟨rfl, rfl⟩))
              go_roundw
              case rel => exact Or.inl ⟨j + 1, r3, hjq2, by omega, HR3.out, by go_num, rfl, rfl, rfl, by first | exact HB2.out | exact bdn HB2.out _⟩
              case measure => simp [intOf]; omega
          · obtain rfl : j = m := by omega
            have hqj : ¬ q < j := by omega
            have HNX : Hid (F (i + 1) = ⟨op ++ [c], nx + 1, r + j * W⟩) := Lib.hid (by rw [HST2.out, if_neg hqj])
            have hadd3 := txAdd P (t.extract i (i + 1)) (by rw [ByteArray.size_extract]; omega)
            rw [HADD.out] at hadd3
            have HR := Lib.hid hjr
            have i2 : (i : Int) + 1 ≤ (sz : Int) := by omega
            have i3 : (i : Int) ≤ (i : Int) + 1 := by omega
            have i4' : 0 ≤ (i : Int) + 1 := by omega
            have i5' : ((i : Int) + 1).toNat = i + 1 := by omega
            clear hjr hqj
            go_wp2
            go_roundw
            case rel => exact ⟨i + 1, by omega, by go_num, by rw [HNX.out]; simp only [HR.out], by rw [HNX.out]; go_num, by rw [HNX.out], HB2.out⟩
            case measure => simp [intOf]; omega
        · have HB2 := Lib.hid hB2
          have HNX : Hid (F (i + 1) = ⟨op.eraseIdx q, nx, r + q * W⟩) := Lib.hid (by rw [HST2.out, if_pos hqm])
          have HR2 := Lib.hid hr2
          have HEs := Lib.hid (show E.size = m - 1 by rw [← HE.out, txL_size, List.length_eraseIdx_of_lt (by rw [HMM.out]; exact hqm), HMM.out])
          have hEs := HEs.out
          clear hB2 hr2
          by_cases hk : (q : Int) + 1 < ((m - 1 : Nat) : Int)
          · go_wp2
            go_roundw
            case rel => exact ⟨i + 1, by omega, by go_num, by rw [HNX.out]; simp only [HR2.out], by rw [HNX.out], by rw [HNX.out, HE.out], HB2.out⟩
            case measure => simp [intOf]; omega
          · go_wp2
            go_roundw
            case rel => exact ⟨i + 1, by omega, by go_num, by rw [HNX.out]; simp only [HR2.out], by rw [HNX.out], by rw [HNX.out, HE.out], HB2.out⟩
            case measure => simp [intOf]; omega
    · obtain rfl : i = 2 * n := by omega
      have HOUT := Lib.hid (show R = r by rw [HFIN.out, HS.out])
      clear hS
      go_wp2
      go_ret2
      exact ⟨by rw [HOUT.out]; rfl, HB.out⟩

theorem sRankOfLoop_yes (t : ByteArray) (ps : List (Nat × Nat)) (w : World) (ht : t.size ≤ 1048576) (h : LoopP t.data.toList ps) (hg : goodL t.data.toList = true) :
    Calls Try.prog 16 #[.string t] w fun e w' => e = .returned (.tuple #[.int .i64 (rankL t.data.toList), .bool true]) ∧ Below w.heap.size w w' :=
  sRankOfLoop_yes' t ps.length w ht (by rw [← tx_len]; exact h.len) h.few hg ((goodL_iff _).1 hg).2.2.1

set_option maxHeartbeats 1000000 in
theorem core_RankOfLoop (t : ByteArray) (x : Int) (y : Bool) (w : World) (ht0 : t.size ≤ 1048576)
    (hs : ∀ W : World, Calls Try.prog 16 #[.string t] W fun e w' => e = .returned (.tuple #[.int .i64 x, .bool y]) ∧ Below W.heap.size W w')
    (hi : ∀ W : World, Calls Try.prog 17 #[.string t] W fun e w' => e = .returned (.tuple #[.int .i64 x, .bool y]) ∧ Below W.heap.size W w') :
    Calls Try.prog 5 #[.string t] w fun e w' => e = .returned (.bool true) ∧ Below w.heap.size w w' := by
  have HS := Lib.hid hs
  have HI := Lib.hid hi
  have h0 : ¬ 1048576 < (t.size : Int) := by omega
  clear hs hi ht0
  go_enter Try.func5, Try.ntmps5
  go_wp2_with (first | (go_at_call 16; (with_reducible refine (HS.out _).mono ?_); rintro e w1 ⟨rfl, hb1⟩) | (go_at_call 17; (with_reducible refine (HI.out _).mono ?_); rintro e w2 ⟨rfl, hb2⟩))
  go_ret
  exact ⟨rfl, hb1.trans (hb2.mono hb1.size)⟩

set_option maxHeartbeats 400000 in
theorem long0_RankOfLoop (t : ByteArray) (w : World)  (ht : 1048576 < (t.size : Int)) :
    Calls Try.prog 5 #[.string t] w fun e w' => e = .returned (.bool true) ∧ Below w.heap.size w w' := by
  go_enter Try.func5, Try.ntmps5
  go_wp2
  go_ret
  exact ⟨rfl, Below.refl _ _⟩

set_option maxHeartbeats 1000000 in
theorem told_rank (t : ByteArray) (ps : List (Nat × Nat)) (w : World) (ht : t.size ≤ 1048576) (h8 : ps.length ≤ 8) (hl : loopL t.data.toList = some ps) :
    Calls Try.prog 55 #[.string t, .func (.func 56) #[] #[]] w fun e w' => e = .returned (.tuple #[.int .i64 (rankL t.data.toList), .bool true]) ∧ Below w.heap.size w w' := by
  have HL := Lib.hid hl
  have HLP := Lib.hid (loopL_some hl).1
  have HTS := Lib.hid (show t.size = 2 * ps.length ∧ ∀ k, k < ps.length → (ps.getD k (0, 0)).1 < (ps.getD k (0, 0)).2 ∧ (ps.getD k (0, 0)).2 < t.size from ⟨by rw [← tx_len]; exact HLP.out.len, fun k hk => by have h1 := HLP.out.lt k hk; have h2 := tx_len t; omega⟩)
  clear hl
  go_enter Try.func55, Try.ntmps55
  go_wp2_with (first | (go_at_call 57; (with_reducible refine (loopOf_yes t ps _ ht HL.out).mono ?_); rintro e w1 ⟨a0, cap, rfl, hP, hb1⟩; (have hz1 := hb1.size); (have HP := Lib.hid hP); clear hP) | (go_at_call 56; (refine (rank_any t a0 ps.length cap _ HTS.out.1 h8 ((goodL_iff _).1 (loopL_some HL.out).2).2.2.1).mono ?_); rintro e w2 ⟨rfl, hb2⟩))
  go_ret2
  exact ⟨rfl, Below.trans (Below.trans hb1 (by go_grown)) (hb2.mono (by simp; omega))⟩

set_option maxHeartbeats 400000 in
theorem told_no_int (t : ByteArray) (f : Value) (w : World) (ht : t.size ≤ 1048576) (hl : loopL t.data.toList = none) :
    Calls Try.prog 55 #[.string t, f] w fun e w' => e = .returned (.tuple #[.int .i64 0, .bool false]) ∧ Below w.heap.size w w' := by
  go_enter Try.func55, Try.ntmps55
  go_wp2_with (first | (go_at_call 57; (with_reducible refine (loopOf_no t _ ht hl).mono ?_); rintro e w1 ⟨rfl, hb1⟩; have hz1 := hb1.size))
  go_ret2
  exact ⟨rfl, Below.trans hb1 (by go_grown)⟩

set_option maxHeartbeats 400000 in
theorem iRankOfLoop_yes (t : ByteArray) (ps : List (Nat × Nat)) (w : World) (ht : t.size ≤ 1048576) (h8 : ps.length ≤ 8) (hl : loopL t.data.toList = some ps) :
    Calls Try.prog 17 #[.string t] w fun e w' => e = .returned (.tuple #[.int .i64 (rankL t.data.toList), .bool true]) ∧ Below w.heap.size w w' := by
  go_enter Try.func17, Try.ntmps17
  go_wp2_with (first | (go_at_call 55; (with_reducible refine (told_rank t ps _ ht h8 hl).mono ?_); rintro e w1 ⟨rfl, hb1⟩))
  go_ret2
  exact ⟨rfl, hb1⟩

set_option maxHeartbeats 400000 in
theorem iRankOfLoop_no (t : ByteArray) (w : World) (ht : t.size ≤ 1048576) (hl : loopL t.data.toList = none) :
    Calls Try.prog 17 #[.string t] w fun e w' => e = .returned (.tuple #[.int .i64 0, .bool false]) ∧ Below w.heap.size w w' := by
  go_enter Try.func17, Try.ntmps17
  go_wp2_with (first | (go_at_call 55; (with_reducible refine (told_no_int t _ _ ht hl).mono ?_); rintro e w1 ⟨rfl, hb1⟩))
  go_ret2
  exact ⟨rfl, hb1⟩

set_option maxHeartbeats 400000 in
theorem sRankOfLoop_no (t : ByteArray) (w : World) (ht : t.size ≤ 1048576) (hg : goodL t.data.toList = false) :
    Calls Try.prog 16 #[.string t] w fun e w' => e = .returned (.tuple #[.int .i64 0, .bool false]) ∧ Below w.heap.size w w' := by
  have HG := Lib.hid hg
  clear hg
  go_enter Try.func16, Try.ntmps16
  go_wp2_with (first | (go_at_call 53; (with_reducible refine (loGood_any t _ ht).mono ?_); rintro e w1 ⟨rfl, hb1⟩; rw [HG.out]))
  go_ret2
  exact ⟨rfl, hb1⟩

theorem main_RankOfLoop (t : ByteArray) (w : World) (ht : t.size ≤ 1048576) : Calls Try.prog 5 #[.string t] w fun e w' => e = .returned (.bool true) ∧ Below w.heap.size w w' := by
  cases hl : loopL t.data.toList with
  | none => exact core_RankOfLoop t _ _ w ht (fun W => sRankOfLoop_no t W ht (loopL_none hl)) (fun W => iRankOfLoop_no t W ht hl)
  | some ps =>
    obtain ⟨h1, h2⟩ := loopL_some hl
    exact core_RankOfLoop t _ _ w ht (fun W => sRankOfLoop_yes t ps W ht h1 h2) (fun W => iRankOfLoop_yes t ps W ht h1.few hl)

theorem walk_RankOfLoop (t : ByteArray) (w : World) (wf0 : t.size ≤ maxLen) :
    Calls Try.prog 5 #[.string t] w fun e w' => e = .returned (.bool true) ∧ Below w.heap.size w w' := by
  by_cases h0 : 1048576 < (t.size : Int)
  · exact long0_RankOfLoop t w  h0
  exact main_RankOfLoop t w (by omega)

end Go.Proofs.Ytpcebcgmbngabab
