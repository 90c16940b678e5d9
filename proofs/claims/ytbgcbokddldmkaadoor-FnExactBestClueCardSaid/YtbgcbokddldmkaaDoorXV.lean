/- BestClue: both sides, the law. -/
import Derived.Test.YtbgcbokddldmkaaDoorXD
import Derived.Test.YtbgcbokddldmkaaDoorXQ
import Derived.Test.YtbgcbokddldmkaaDoorXR
namespace Go.Proofs.YtbgcbokddldmkaaDoor
open Go.RowKit
set_option linter.unusedVariables false

/-- 'list[k:k+1]' -/
theorem srcT_at {w : World} {b off n cap k k1 c0 c' : Nat} {xs : List Tri} (h : SrcT w (.slice (some ⟨b, off, none⟩) n cap) xs) (hk : k < xs.length) (h1 : k1 = k + 1) (hc0 : c0 ≠ k) (hc : 1 ≤ c') (hm : c' ≤ maxLen) :
    SrcT w (.slice (if c0 = k then some ⟨b, off, none⟩ else some ⟨b, off + k * 3, none⟩) (k1 - k) c') [xs.getD k noT] := by
  rw [if_neg hc0, show k1 - k = 1 by omega]
  rcases h with ⟨h, _⟩ | ⟨b', off', c, hv, hm1, hm2, hcl⟩
  · cases h
  · cases hv
    refine .inr ⟨b, off + k * 3, c', rfl, hc, hm, fun i hi => ?_⟩
    obtain rfl : i = 0 := by simpa using hi
    exact hcl k hk

theorem srcT_atP {w : World} {b off n cap k k1 c' : Nat} {xs : List Tri} (h : SrcT w (.slice (some ⟨b, off, none⟩) n cap) xs) (hk : k < xs.length) (h1 : k1 = k + 1) (hc : 1 ≤ c') (hm : c' ≤ maxLen) :
    SrcT w (.slice (some ⟨b, off + k * 3, none⟩) (k1 - k) c') [xs.getD k noT] := by
  have := srcT_at (c0 := k + 1) h hk h1 (by omega) hc hm
  rwa [if_neg (by omega)] at this

theorem srcT_at0 {w : World} {b off n cap c' : Nat} {xs : List Tri} (h : SrcT w (.slice (some ⟨b, off, none⟩) n cap) xs) (hk : 0 < xs.length) (hc : 1 ≤ c') (hm : c' ≤ maxLen) :
    SrcT w (.slice (some ⟨b, off, none⟩) 1 c') [xs.getD 0 noT] := by
  have := srcT_at (k1 := 1) (c0 := 1) h hk rfl (by omega) hc hm
  simpa using this

theorem puzzleP.at {xs : List Tri} (h : puzzleP xs) {k : Nat} (hk : k < xs.length) : puzzleP [xs.getD k noT] :=
  .of_mem (by simp) fun c hc => by
    obtain rfl := List.mem_singleton.1 hc
    exact h.2 k hk

set_option maxHeartbeats 1000000 in
theorem iBest_no1 (u : Value) (xs : List Tri) (w : World) (hx : SrcT w u xs) (hP : ¬ puzzleP xs) (hW : ClueW w) : Calls Tryd.prog 30 #[.agg #[u]] w (fun e w' => e = .returned (.tuple #[.int .i64 (0), .bool false]) ∧ Below w.heap.size w w') := by
  have HX := Lib.hid hx
  have HW := Lib.hid hW
  have HP := Lib.hid (show decide (puzzleP xs) = false from decide_eq_false hP)
  have HPP := Lib.hid hP
  obtain ⟨a0, cap, g, off, rfl, _⟩ := hx.form
  clear hx hW hP
  go_enter Tryd.func30, Tryd.ntmps30
  go_wp2_with (first | (go_at_call 62; (refine (iIsPuzzle_any _ xs false _ (HX.out.later (by go_grown)) HP.out (HW.out.later (by go_grown))).mono ?_); rintro e w1 ⟨rfl, hb1⟩; (have c0 : w1.cell? ⟨w.heap.size, 0, none⟩ = some (.slice a0 xs.length cap) := cellB hb1 (by go_simp)); (have hB1 : Below w.heap.size w w1 := Below.trans (by go_grown) (hb1.mono (by first | omega | (simp; done) | (simp; omega)))); have hz1 := hB1.size))
  go_ret2
  exact ⟨rfl, hB1⟩

set_option maxHeartbeats 1000000 in
theorem iBest_no2 (u : Value) (xs : List Tri) (w : World) (hx : SrcT w u xs) (hP : puzzleP xs) (hl : xs.length = 0) (hW : ClueW w) : Calls Tryd.prog 30 #[.agg #[u]] w (fun e w' => e = .returned (.tuple #[.int .i64 (0), .bool false]) ∧ Below w.heap.size w w') := by
  have HX := Lib.hid hx
  have HW := Lib.hid hW
  have HP := Lib.hid (show decide (puzzleP xs) = true from decide_eq_true hP)
  have HPP := Lib.hid hP
  obtain ⟨a0, cap, g, off, rfl, _⟩ := hx.form
  have e0 : (((xs.length : Nat) : Int) == 0) = true := by rw [hl]; rfl
  have e1 : ((xs.length : Nat) : Int) = 0 := by omega
  clear hx hW hP hl
  go_enter Tryd.func30, Tryd.ntmps30
  go_wp2_with (first | (go_at_call 62; (refine (iIsPuzzle_any _ xs true _ (HX.out.later (by go_grown)) HP.out (HW.out.later (by go_grown))).mono ?_); rintro e w1 ⟨rfl, hb1⟩; (have c0 : w1.cell? ⟨w.heap.size, 0, none⟩ = some (.slice a0 xs.length cap) := cellB hb1 (by go_simp)); (have hB1 : Below w.heap.size w w1 := Below.trans (by go_grown) (hb1.mono (by first | omega | (simp; done) | (simp; omega)))); have hz1 := hB1.size))
  go_ret2
  exact ⟨rfl, hB1⟩

set_option maxHeartbeats 2000000 in
theorem iBest_yes (u : Value) (xs : List Tri) (w : World) (hx : SrcT w u xs) (hP : puzzleP xs) (hl : 0 < xs.length) (hW : ClueW w) : Calls Tryd.prog 30 #[.agg #[u]] w (fun e w' => e = .returned (.tuple #[.int .i64 (((bestZ xs xs.length).1 : Nat)), .bool true]) ∧ Below w.heap.size w w') := by
  have HX := Lib.hid hx
  have HW := Lib.hid hW
  have HP := Lib.hid (show decide (puzzleP xs) = true from decide_eq_true hP)
  have HPP := Lib.hid hP
  obtain ⟨a0, cap, g, off, rfl, ha, hc1, hc2, _⟩ := hx.form
  obtain rfl := ha hl
  have hl6 := hP.1
  have e0 : (((xs.length : Nat) : Int) == 0) = false := by rw [beq_eq_false_iff_ne]; omega
  have e1 : ¬ ((xs.length : Nat) : Int) = 0 := by omega
  have HCAP : Hid (cap ≤ maxLen) := Lib.hid hc2
  unfold maxLen at hc2
  clear hx hW hP
  go_enter Tryd.func30, Tryd.ntmps30
  go_wp2_with (first | (go_at_call 62; (refine (iIsPuzzle_any _ xs true _ (HX.out.later (by go_grown)) HP.out (HW.out.later (by go_grown))).mono ?_); rintro e w1 ⟨rfl, hb1⟩; (have c0 : w1.cell? ⟨w.heap.size, 0, none⟩ = some (.slice (some ⟨g, off, none⟩) xs.length cap) := cellB hb1 (by go_simp)); (have hB1 : Below w.heap.size w w1 := Below.trans (by go_grown) (hb1.mono (by first | omega | (simp; done) | (simp; omega)))); have hz1 := hB1.size))
  obtain ⟨n, hn⟩ : ∃ n, n = xs.length := ⟨_, rfl⟩
  have HN := Lib.hid hn
  have hn1 : n ≤ xs.length := by omega
  have hn2 : xs.length ≤ n := by omega
  clear hn
  go_loopw [4, 5, 20] (fun b f i wr => ∃ k : Nat, k ≤ n ∧ i = .int .i64 k ∧ b = .int .i64 (((bestZ xs k).1 : Nat) : Int) ∧ f = .int .i64 (((bestZ xs k).2 : Nat) : Int) ∧ Below w1.heap.size w1 wr) (fun _ _ i _ => n - (intOf i).toNat)
  case atStart => exact ⟨0, by omega, rfl, rfl, rfl, Below.refl _ _⟩
  case round =>
    obtain ⟨k, hk, rfl, hbv, hfv, hB⟩ := hrel
    have hz := hB.size
    have d0 := cellB hB c0
    by_cases hlt : k < n
    · have k0 : (k : Int) < (xs.length : Int) := by omega
      have k00 : 0 ≤ (k : Int) := by omega
      have hkx : k < xs.length := by omega
      have HK := Lib.hid hkx
      have HP1 := Lib.hid (HPP.out.at hkx)
      obtain ⟨k1, hk1⟩ : ∃ k1, k1 = k + 1 := ⟨_, rfl⟩
      have hwk : IntKind.i64.wrap ((k : Int) + 1) = (k1 : Int) := by rw [IntKind.wrap_i64]; omega
      have hk2 : (k1 : Int) ≤ (xs.length : Int) := by omega
      have hk3 : (k1 : Int) ≤ (cap : Int) := by omega
      have hk4 : (k : Int) ≤ (k1 : Int) := by omega
      have hk5 : 0 ≤ (k1 : Int) := by omega
      have HK1 := Lib.hid hk1
      have hlo := solZ_length [xs.getD k noT]
      obtain ⟨cn, hcn⟩ : ∃ c, aloneZ xs k = c := ⟨_, rfl⟩
      have HCN : Hid ((solZ [xs.getD k noT]).length = cn) := Lib.hid hcn
      have HC : Hid ((((solZ [xs.getD k noT]).length : Nat) : Int) = ((cn : Nat) : Int)) := Lib.hid (by rw [HCN.out])
      rw [HCN.out] at hlo
      have HA : Hid (aloneZ xs k = cn) := Lib.hid hcn
      obtain ⟨bb, hbb⟩ : ∃ c, (bestZ xs k).1 = c := ⟨_, rfl⟩
      obtain ⟨ff, hff⟩ : ∃ c, (bestZ xs k).2 = c := ⟨_, rfl⟩
      rw [hbb] at hbv
      rw [hff] at hfv
      subst hbv hfv
      have HBB := Lib.hid hbb
      have HFF := Lib.hid hff
      clear hcn hbb hff hk1 hkx
      by_cases hz0 : k = 0
      · have HR := Lib.hid (bestZ_new (cs := xs) (k := k) (.inl hz0))
        subst hz0
        clear hwk hk2 hk3 hk4 hk5 k0 k00
        have c1' : (1 : Int) ≤ (xs.length : Int) := by omega
        have c2' : (1 : Int) ≤ (cap : Int) := by omega
        have c3' : 0 < (xs.length : Int) := by omega
        have c4' : 0 < xs.length := by omega
        have c5' : 1 ≤ cap := by omega
        have c6' : 1 ≤ xs.length := by omega
        go_wp2_with (first | (go_at_call 67; (refine (countFitting_any _ [xs.getD 0 noT] _ (srcT_at0 (HX.out.later (hB1.trans (hB.mono hz1))) HK.out (by omega) (by have := HCAP.out; unfold maxLen; omega)) HP1.out).mono ?_); rw [HC.out]; rintro e w2 ⟨rfl, hb2⟩; (have hB2 := hB.trans (hb2.mono hz))))
        go_roundw
        case rel => exact ⟨1, by omega, by simp, by rw [HR.out]; rfl, by rw [HR.out, HA.out], hB2⟩
        case measure => simp [intOf]; omega
      · have q0 : ((k : Int) == 0) = false := by rw [beq_eq_false_iff_ne]; omega
        have q1 : ¬ (k : Int) = 0 := by omega
        by_cases hlf : cn < ff
        · have q2 : (cn : Int) < (ff : Int) := by omega
          have HR := Lib.hid (bestZ_new (cs := xs) (k := k) (.inr (by rw [HA.out, HFF.out]; exact hlf)))
          go_wp2_with (first | (go_at_call 67; (refine (countFitting_any _ [xs.getD k noT] _ (srcT_at (HX.out.later (hB1.trans (hB.mono hz1))) HK.out HK1.out (by have := HK1.out; have := HK.out; omega) (by have := HK1.out; have := HK.out; omega) (by have := HK1.out; have := HCAP.out; omega)) HP1.out).mono ?_); rw [HC.out]; rintro e w2 ⟨rfl, hb2⟩; (have hB2 := hB.trans (hb2.mono hz))))
          go_roundw
          case rel => exact ⟨k + 1, by omega, by rw [HK1.out], by rw [HR.out], by rw [HR.out, HA.out], hB2⟩
          case measure => have := HK1.out; simp [intOf]; omega
        · have q2 : ¬ (cn : Int) < (ff : Int) := by omega
          have HR := Lib.hid (bestZ_old (cs := xs) (k := k) (by rw [HA.out, HFF.out]; omega))
          go_wp2_with (first | (go_at_call 67; (refine (countFitting_any _ [xs.getD k noT] _ (srcT_at (HX.out.later (hB1.trans (hB.mono hz1))) HK.out HK1.out (by have := HK1.out; have := HK.out; omega) (by have := HK1.out; have := HK.out; omega) (by have := HK1.out; have := HCAP.out; omega)) HP1.out).mono ?_); rw [HC.out]; rintro e w2 ⟨rfl, hb2⟩; (have hB2 := hB.trans (hb2.mono hz))))
          go_roundw
          case rel => exact ⟨k + 1, by omega, by rw [HK1.out], by rw [HR.out, HBB.out], by rw [HR.out, HFF.out], hB2⟩
          case measure => have := HK1.out; simp [intOf]; omega
    · obtain rfl : k = n := by omega
      have k1 : ¬ (k : Int) < (xs.length : Int) := by omega
      subst hbv hfv
      obtain ⟨r, hr⟩ : ∃ r, (bestZ xs k).1 = r := ⟨_, rfl⟩
      have HR := Lib.hid hr
      have HE : Hid ((bestZ xs xs.length).1 = r) := Lib.hid (by rw [← HN.out]; exact hr)
      rw [hr]
      clear hr
      go_wp2
      go_ret2
      exact ⟨by rw [HE.out]; try rfl, hB1.trans (hB.mono hz1)⟩

set_option maxHeartbeats 1000000 in
theorem sBest_no1 (u : Value) (xs : List Tri) (w : World) (hx : SrcT w u xs) (hP : ¬ puzzleP xs) (hW : ClueW w) : Calls Tryd.prog 29 #[.agg #[u]] w (fun e w' => e = .returned (.tuple #[.int .i64 (0), .bool false]) ∧ Below w.heap.size w w') := by
  have HX := Lib.hid hx
  have HW := Lib.hid hW
  have HP := Lib.hid (show decide (puzzleP xs) = false from decide_eq_false hP)
  have HPP := Lib.hid hP
  obtain ⟨a0, cap, g, off, rfl, _⟩ := hx.form
  clear hx hW hP
  go_enter Tryd.func29, Tryd.ntmps29
  go_wp2_with (first | (go_at_call 53; (refine (pzGood_any _ xs false _ (HX.out.later (by go_grown)) HP.out).mono ?_); rintro e w1 ⟨rfl, hb1⟩; (have c0 : w1.cell? ⟨w.heap.size, 0, none⟩ = some (.slice a0 xs.length cap) := cellB hb1 (by go_simp)); (have hB1 : Below w.heap.size w w1 := Below.trans (by go_grown) (hb1.mono (by first | omega | (simp; done) | (simp; omega)))); have hz1 := hB1.size))
  go_ret2
  exact ⟨rfl, hB1⟩

set_option maxHeartbeats 1000000 in
theorem sBest_no2 (u : Value) (xs : List Tri) (w : World) (hx : SrcT w u xs) (hP : puzzleP xs) (hl : xs.length = 0) (hW : ClueW w) : Calls Tryd.prog 29 #[.agg #[u]] w (fun e w' => e = .returned (.tuple #[.int .i64 (0), .bool false]) ∧ Below w.heap.size w w') := by
  have HX := Lib.hid hx
  have HW := Lib.hid hW
  have HP := Lib.hid (show decide (puzzleP xs) = true from decide_eq_true hP)
  have HPP := Lib.hid hP
  obtain ⟨a0, cap, g, off, rfl, _⟩ := hx.form
  have e0 : (((xs.length : Nat) : Int) == 0) = true := by rw [hl]; rfl
  have e1 : ((xs.length : Nat) : Int) = 0 := by omega
  clear hx hW hP hl
  go_enter Tryd.func29, Tryd.ntmps29
  go_wp2_with (first | (go_at_call 53; (refine (pzGood_any _ xs true _ (HX.out.later (by go_grown)) HP.out).mono ?_); rintro e w1 ⟨rfl, hb1⟩; (have c0 : w1.cell? ⟨w.heap.size, 0, none⟩ = some (.slice a0 xs.length cap) := cellB hb1 (by go_simp)); (have hB1 : Below w.heap.size w w1 := Below.trans (by go_grown) (hb1.mono (by first | omega | (simp; done) | (simp; omega)))); have hz1 := hB1.size))
  go_ret2
  exact ⟨rfl, hB1⟩

set_option maxHeartbeats 2000000 in
theorem sBest_yes (u : Value) (xs : List Tri) (w : World) (hx : SrcT w u xs) (hP : puzzleP xs) (hl : 0 < xs.length) (hW : ClueW w) : Calls Tryd.prog 29 #[.agg #[u]] w (fun e w' => e = .returned (.tuple #[.int .i64 (((bestZ xs xs.length).1 : Nat)), .bool true]) ∧ Below w.heap.size w w') := by
  have HX := Lib.hid hx
  have HW := Lib.hid hW
  have HP := Lib.hid (show decide (puzzleP xs) = true from decide_eq_true hP)
  have HPP := Lib.hid hP
  obtain ⟨a0, cap, g, off, rfl, ha, hc1, hc2, _⟩ := hx.form
  obtain rfl := ha hl
  have hl6 := hP.1
  have e0 : (((xs.length : Nat) : Int) == 0) = false := by rw [beq_eq_false_iff_ne]; omega
  have e1 : ¬ ((xs.length : Nat) : Int) = 0 := by omega
  have HCAP : Hid (cap ≤ maxLen) := Lib.hid hc2
  unfold maxLen at hc2
  clear hx hW hP
  go_enter Tryd.func29, Tryd.ntmps29
  go_wp2_with (first | (go_at_call 53; (refine (pzGood_any _ xs true _ (HX.out.later (by go_grown)) HP.out).mono ?_); rintro e w1 ⟨rfl, hb1⟩; (have c0 : w1.cell? ⟨w.heap.size, 0, none⟩ = some (.slice (some ⟨g, off, none⟩) xs.length cap) := cellB hb1 (by go_simp)); (have hB1 : Below w.heap.size w w1 := Below.trans (by go_grown) (hb1.mono (by first | omega | (simp; done) | (simp; omega)))); have hz1 := hB1.size))
  obtain ⟨n, hn⟩ : ∃ n, n = xs.length := ⟨_, rfl⟩
  have HN := Lib.hid hn
  have hn1 : n ≤ xs.length := by omega
  have hn2 : xs.length ≤ n := by omega
  clear hn
  go_loopw [4, 5, 20] (fun b f i wr => ∃ k : Nat, k ≤ n ∧ i = .int .i64 k ∧ b = .int .i64 (((bestZ xs k).1 : Nat) : Int) ∧ f = .int .i64 (((bestZ xs k).2 : Nat) : Int) ∧ Below w1.heap.size w1 wr) (fun _ _ i _ => n - (intOf i).toNat)
  case atStart => exact ⟨0, by omega, rfl, rfl, rfl, Below.refl _ _⟩
  case round =>
    obtain ⟨k, hk, rfl, hbv, hfv, hB⟩ := hrel
    have hz := hB.size
    have d0 := cellB hB c0
    by_cases hlt : k < n
    · have k0 : (k : Int) < (xs.length : Int) := by omega
      have k00 : 0 ≤ (k : Int) := by omega
      have hkx : k < xs.length := by omega
      have HK := Lib.hid hkx
      have HP1 := Lib.hid (HPP.out.at hkx)
      obtain ⟨k1, hk1⟩ : ∃ k1, k1 = k + 1 := ⟨_, rfl⟩
      have hwk : IntKind.i64.wrap ((k : Int) + 1) = (k1 : Int) := by rw [IntKind.wrap_i64]; omega
      have hk2 : (k1 : Int) ≤ (xs.length : Int) := by omega
      have hk3 : (k1 : Int) ≤ (cap : Int) := by omega
      have hk4 : (k : Int) ≤ (k1 : Int) := by omega
      have hk5 : 0 ≤ (k1 : Int) := by omega
      have HK1 := Lib.hid hk1
      have hlo := solZ_length [xs.getD k noT]
      obtain ⟨cn, hcn⟩ : ∃ c, aloneZ xs k = c := ⟨_, rfl⟩
      have HCN : Hid ((solZ [xs.getD k noT]).length = cn) := Lib.hid hcn
      have HC : Hid ((((solZ [xs.getD k noT]).length : Nat) : Int) = ((cn : Nat) : Int)) := Lib.hid (by rw [HCN.out])
      rw [HCN.out] at hlo
      have HA : Hid (aloneZ xs k = cn) := Lib.hid hcn
      obtain ⟨bb, hbb⟩ : ∃ c, (bestZ xs k).1 = c := ⟨_, rfl⟩
      obtain ⟨ff, hff⟩ : ∃ c, (bestZ xs k).2 = c := ⟨_, rfl⟩
      rw [hbb] at hbv
      rw [hff] at hfv
      subst hbv hfv
      have HBB := Lib.hid hbb
      have HFF := Lib.hid hff
      clear hcn hbb hff hk1 hkx
      by_cases hz0 : k = 0
      · have HR := Lib.hid (bestZ_new (cs := xs) (k := k) (.inl hz0))
        subst hz0
        clear hwk hk2 hk3 hk4 hk5 k0 k00
        have c1' : (1 : Int) ≤ (xs.length : Int) := by omega
        have c2' : (1 : Int) ≤ (cap : Int) := by omega
        have c3' : 0 < (xs.length : Int) := by omega
        have c4' : 0 < xs.length := by omega
        have c5' : 1 ≤ cap := by omega
        have c6' : 1 ≤ xs.length := by omega
        go_wp2_with (first | (go_at_call 54; (refine (pzAll_any _ [xs.getD 0 noT] _ (srcT_at0 (HX.out.later (hB1.trans (hB.mono hz1))) HK.out (by omega) (by have := HCAP.out; unfold maxLen; omega)) HP1.out).mono ?_); rintro e w2 ⟨v2, rfl, hP2, hb2⟩; (obtain ⟨a1, c1', g1, rfl, _⟩ := hP2.pairs.view); rw [HCN.out]; (have hB2 := hB.trans (hb2.mono hz)); clear hP2))
        go_roundw
        case rel => exact ⟨1, by omega, by simp, by rw [HR.out]; rfl, by rw [HR.out, HA.out], hB2⟩
        case measure => simp [intOf]; omega
      · have q0 : ((k : Int) == 0) = false := by rw [beq_eq_false_iff_ne]; omega
        have q1 : ¬ (k : Int) = 0 := by omega
        by_cases hlf : cn < ff
        · have q2 : (cn : Int) < (ff : Int) := by omega
          have HR := Lib.hid (bestZ_new (cs := xs) (k := k) (.inr (by rw [HA.out, HFF.out]; exact hlf)))
          go_wp2_with (first | (go_at_call 54; (refine (pzAll_any _ [xs.getD k noT] _ (srcT_atP (HX.out.later (hB1.trans (hB.mono hz1))) HK.out HK1.out (by have := HK1.out; have := HK.out; omega) (by have := HK1.out; have := HCAP.out; omega)) HP1.out).mono ?_); rintro e w2 ⟨v2, rfl, hP2, hb2⟩; (obtain ⟨a1, c1', g1, rfl, _⟩ := hP2.pairs.view); rw [HCN.out]; (have hB2 := hB.trans (hb2.mono hz)); clear hP2))
          go_roundw
          case rel => exact ⟨k + 1, by omega, by rw [HK1.out], by rw [HR.out], by rw [HR.out, HA.out], hB2⟩
          case measure => have := HK1.out; simp [intOf]; omega
        · have q2 : ¬ (cn : Int) < (ff : Int) := by omega
          have HR := Lib.hid (bestZ_old (cs := xs) (k := k) (by rw [HA.out, HFF.out]; omega))
          go_wp2_with (first | (go_at_call 54; (refine (pzAll_any _ [xs.getD k noT] _ (srcT_atP (HX.out.later (hB1.trans (hB.mono hz1))) HK.out HK1.out (by have := HK1.out; have := HK.out; omega) (by have := HK1.out; have := HCAP.out; omega)) HP1.out).mono ?_); rintro e w2 ⟨v2, rfl, hP2, hb2⟩; (obtain ⟨a1, c1', g1, rfl, _⟩ := hP2.pairs.view); rw [HCN.out]; (have hB2 := hB.trans (hb2.mono hz)); clear hP2))
          go_roundw
          case rel => exact ⟨k + 1, by omega, by rw [HK1.out], by rw [HR.out, HBB.out], by rw [HR.out, HFF.out], hB2⟩
          case measure => have := HK1.out; simp [intOf]; omega
    · obtain rfl : k = n := by omega
      have k1 : ¬ (k : Int) < (xs.length : Int) := by omega
      subst hbv hfv
      obtain ⟨r, hr⟩ : ∃ r, (bestZ xs k).1 = r := ⟨_, rfl⟩
      have HR := Lib.hid hr
      have HE : Hid ((bestZ xs xs.length).1 = r) := Lib.hid (by rw [← HN.out]; exact hr)
      rw [hr]
      clear hr
      go_wp2
      go_ret2
      exact ⟨by rw [HE.out]; try rfl, hB1.trans (hB.mono hz1)⟩

set_option maxHeartbeats 2000000 in
theorem core_BestClue (v : Value) (xs : List Tri) (x : Int) (b : Bool) (w : World) (hA : ArgT w v xs) (hW : ClueW w) (hn : xs.length ≤ 1048576)
    (hs : ∀ (W : World) (u : Value) (B T : Nat), ClueW W → TripsIn 44 W B T u xs → T ≤ W.heap.size → Calls Tryd.prog 29 #[.agg #[u]] W (fun e w' => e = .returned (.tuple #[.int .i64 x, .bool b]) ∧ Below W.heap.size W w'))
    (hi : ∀ (W : World) (u : Value) (B T : Nat), ClueW W → TripsIn 44 W B T u xs → T ≤ W.heap.size → Calls Tryd.prog 30 #[.agg #[u]] W (fun e w' => e = .returned (.tuple #[.int .i64 x, .bool b]) ∧ Below W.heap.size W w')) :
    Calls Tryd.prog 6 #[.agg #[v]] w fun e w' => e = .returned (.bool true) ∧ Below w.heap.size w w' := by
  have hA1 := hA
  obtain ⟨a0, cap, a, rfl, _⟩ := hA1
  have HS := Lib.hid hs
  have HI := Lib.hid hi
  have HA := Lib.hid hA
  have HW := Lib.hid hW
  clear hs hi hA hW
  go_enter Tryd.func6, Tryd.ntmps6
  go_wp2_with fail
  refine (szPuzzle_yes _ _ _ _ hn).mono ?_
  rintro e w1 ⟨rfl, hx1⟩
  have hb1 : Below w.heap.size w w1 := Below.trans (by go_grown) (hx1.mono (by first | omega | (simp; done) | (simp; omega)))
  have n1 : w.heap.size + 1 ≤ w1.heap.size := by have := hx1.size; (try simp at this); omega
  have B1 : Below w.heap.size w w1 := hb1
  have zp1 : w1.cell? ⟨w.heap.size, 0, none⟩ = some (.slice a0 xs.length cap) := cellB hx1 (by go_simp)
  go_wp2_with fail
  refine (toPuzzle_any _ _ _ (HA.out.later B1) hn).mono ?_
  rintro e w2 ⟨va, rfl, ka_2, hx2⟩
  have hb2 : Below w1.heap.size w1 w2 := Below.trans (by go_grown) (hx2.mono (by first | omega | (simp; done) | (simp; omega)))
  have n2 : w1.heap.size + 0 ≤ w2.heap.size := by have := hx2.size; (try simp at this); omega
  have B2 : Below w.heap.size w w2 := B1.trans (hb2.mono (by omega))
  have zp2 := cellB hb2 zp1
  clear zp1
  obtain ⟨aa, ma, ca, hva⟩ := own_formT ka_2.1
  subst hva
  go_wp2_with fail
  refine (HS.out _ _ _ _ (HW.out.later B2) ka_2 (by first | omega | (simp; done) | (simp; omega))).mono ?_
  rintro e w3 ⟨rfl, hx3⟩
  have hb3 : Below w2.heap.size w2 w3 := Below.trans (by go_grown) (hx3.mono (by first | omega | (simp; done) | (simp; omega)))
  have n3 : w2.heap.size + 0 ≤ w3.heap.size := by have := hx3.size; (try simp at this); omega
  have B3 : Below w.heap.size w w3 := B2.trans (hb3.mono (by omega))
  have zp3 := cellB hb3 zp2
  clear zp2
  have ka_3 := ka_2.keep (belowSame hb3 (by omega))
  go_wp2_with fail
  refine (toPuzzle_any _ _ _ (HA.out.later B3) hn).mono ?_
  rintro e w4 ⟨vc, rfl, kc_4, hx4⟩
  have hb4 : Below w3.heap.size w3 w4 := Below.trans (by go_grown) (hx4.mono (by first | omega | (simp; done) | (simp; omega)))
  have n4 : w3.heap.size + 0 ≤ w4.heap.size := by have := hx4.size; (try simp at this); omega
  have B4 : Below w.heap.size w w4 := B3.trans (hb4.mono (by omega))
  have zp4 := cellB hb4 zp3
  clear zp3
  have ka_4 := ka_3.keep (belowSame hb4 (by omega))
  obtain ⟨ac, mc, cc, hvc⟩ := own_formT kc_4.1
  subst hvc
  go_wp2_with fail
  refine (HI.out _ _ _ _ (HW.out.later (Below.trans B4 (by go_grown))) (kc_4.keep (belowSame (by go_grown) (by first | omega | (simp; done) | (simp; omega)))) (by first | omega | (simp; done) | (simp; omega))).mono ?_
  rintro e w5 ⟨rfl, hx5⟩
  have hb5 : Below w4.heap.size w4 w5 := Below.trans (by go_grown) (hx5.mono (by first | omega | (simp; done) | (simp; omega)))
  have n5 : w4.heap.size + 1 ≤ w5.heap.size := by have := hx5.size; (try simp at this); omega
  have B5 : Below w.heap.size w w5 := B4.trans (hb5.mono (by omega))
  have zp5 := cellB hb5 zp4
  clear zp4
  have zc5 : w5.cell? ⟨w4.heap.size, 0, none⟩ = some (.slice ac mc cc) := cellB hx5 (by go_simp)
  have ka_5 := ka_4.keep (belowSame hb5 (by omega))
  have kc_5 := kc_4.keep (belowSame hb5 (by omega))
  go_wp2
  go_region_held3 (fun w' => w'.cell? ⟨w.heap.size, 0, none⟩ = some (.slice a0 xs.length cap) ∧ w'.cell? ⟨w4.heap.size, 0, none⟩ = some (.slice ac mc cc)) (go_keep)
    (first | (go_at_call 16; refine (toPuzzle_any _ _ _ (HA.out.later (Below.trans B5 (by go_grown))) hn).mono ?_; rintro e w6 ⟨vd, rfl, kd_6, hx6⟩; (have kd_6 := kd_6.wider (B' := w5.heap.size + 0) (by first | exact Nat.le_refl _ | (simp; done) | (simp; omega)) (Nat.le_refl _)); (have hb6 : Below w5.heap.size w5 w6 := Below.trans (by go_grown) (hx6.mono (by first | omega | (simp; done) | (simp; omega)))); (have n6 : w5.heap.size + 0 ≤ w6.heap.size := by have := hx6.size; (try simp at this); omega); (have B6 : Below w.heap.size w w6 := B5.trans (hb6.mono (by omega))); (have zp6 := cellB hb6 zp5); (have zc6 := cellB hb6 zc5); (have ka_6 := ka_5.keep (belowSame hb6 (by omega))); (have kc_6 := kc_5.keep (belowSame hb6 (by omega))); (obtain ⟨ad, md, cd, hvd⟩ := own_formT kd_6.1); subst hvd) | (go_at_call 19; refine (eqPuzzle_in _ _ _ _ _ _ _ _ _ (kc_6.keep (belowSame (by go_grown) (by first | omega | (simp; done) | (simp; omega)))) (kd_6.keep (belowSame (by go_grown) (by first | omega | (simp; done) | (simp; omega)))) (by first | omega | (simp; done) | (simp; omega)) (by first | omega | (simp; done) | (simp; omega))).mono ?_; rintro e w7 ⟨rfl, hx7⟩; (have hb7 : Below w6.heap.size w6 w7 := Below.trans (by go_grown) (hx7.mono (by first | omega | (simp; done) | (simp; omega)))); (have n7 : w6.heap.size + 0 ≤ w7.heap.size := by have := hx7.size; (try simp at this); omega); (have B7 : Below w.heap.size w w7 := B6.trans (hb7.mono (by omega))); (have zp7 := cellB hb7 zp6); (have zc7 := cellB hb7 zc6); (have ka_7 := ka_6.keep (belowSame hb7 (by omega))); (have kc_7 := kc_6.keep (belowSame hb7 (by omega))); (have kd_7 := kd_6.keep (belowSame hb7 (by omega)))))
  go_wp2_with fail
  go_ret
  exact ⟨rfl, B7⟩

set_option maxHeartbeats 400000 in
theorem long_BestClue (v : Value) (xs : List Tri) (w : World) (hA : ArgT w v xs) (hn : ¬ xs.length ≤ 1048576) :
    Calls Tryd.prog 6 #[.agg #[v]] w fun e w' => e = .returned (.bool true) ∧ Below w.heap.size w w' := by
  obtain ⟨a0, cap, a, rfl, _, hm, _⟩ := hA
  go_enter Tryd.func6, Tryd.ntmps6
  go_wp2_with fail
  refine (szPuzzle_no _ _ _ _ (by omega) hm).mono ?_
  rintro e w0 ⟨rfl, hb0⟩
  go_wp2_with fail
  go_ret
  exact ⟨rfl, Below.trans (by go_grown) (hb0.mono (by first | omega | (simp; done) | (simp; omega)))⟩

theorem walk_BestClue (v : Value) (xs : List Tri) (w : World) (hA : ArgT w v xs) (hW : ClueW w) :
    Calls Tryd.prog 6 #[.agg #[v]] w fun e w' => e = .returned (.bool true) ∧ Below w.heap.size w w' := by
  by_cases hn : xs.length ≤ 1048576
  · by_cases hP : puzzleP xs
    · by_cases hl : xs.length = 0
      · exact core_BestClue v xs 0 false w hA hW hn (fun W u B T hw h _ => sBest_no2 u xs W h.1.src hP hl hw) (fun W u B T hw h _ => iBest_no2 u xs W h.1.src hP hl hw)
      · exact core_BestClue v xs _ true w hA hW hn (fun W u B T hw h _ => sBest_yes u xs W h.1.src hP (by omega) hw) (fun W u B T hw h _ => iBest_yes u xs W h.1.src hP (by omega) hw)
    · exact core_BestClue v xs 0 false w hA hW hn (fun W u B T hw h _ => sBest_no1 u xs W h.1.src hP hw) (fun W u B T hw h _ => iBest_no1 u xs W h.1.src hP hw)
  · exact long_BestClue v xs w hA hn
end Go.Proofs.YtbgcbokddldmkaaDoor
