/- HarderPuzzle: both sides, the law. -/
import Derived.Test.YtbgcbokddldmkaaDoorXD
import Derived.Test.YtbgcbokddldmkaaDoorXQ
import Derived.Test.YtbgcbokddldmkaaDoorXR
import Derived.Test.YtbgcbokddldmkaaDoorXZ
namespace Go.Proofs.YtbgcbokddldmkaaDoor
open Go.RowKit
set_option linter.unusedVariables false

def lenOfV : Value → Nat
  | .slice _ n _ => n
  | _ => 0

set_option maxHeartbeats 600000 in
theorem cloneT_any (a0 : Option Addr) (cap : Nat) (xs : List Tri) (w : World) (hx : SrcT w (.slice a0 xs.length cap) xs) (hl : xs.length ≤ 1000) :
    Calls Tryd.prog 70 #[.slice a0 xs.length cap] w fun e w' => ∃ v, e = .returned v ∧ Trips w' w.heap.size 44 v xs ∧ Below w.heap.size w w' := by
  have q : ∀ (w : World) (a : Option Addr) (n c n' c' : Nat), (binOp .eql 29 (.slice a n c) (.slice none n' c')).run Tryd.prog w = .ok (.bool a.isNone) w := fun w a n c n' c' => Lib.run_eql_slice_nil w _ _ a n c n' c' Tryd.underlying29
  cases a0 with
  | none =>
    have hn : xs = [] := by
      rcases hx with ⟨_, h⟩ | ⟨b, off, c, hv, _⟩
      · exact h
      · cases hv
    subst hn
    go_enter Tryd.func70, Tryd.ntmps70
    go_wp2
    go_ret
    exact ⟨_, rfl, World.ownsRow_nil _ _ _ _, Below.refl _ _⟩
  | some a =>
    have HI := Lib.hid (Trips.boxed w w.heap.size 44 [] (Nat.le_refl _) (by simp))
    have HB := Lib.hid ((Below.refl w.heap.size w).alloc (Nat.le_refl _) (.cells ((flatT []).map (Value.int .i64)).toArray 44))
    have HX := Lib.hid (hx.later HB.out)
    have hl2 : ([] : List Tri).length + xs.length ≤ 1000000000 := by simp; omega
    clear hx
    go_enter Tryd.func70, Tryd.ntmps70
    go_wp2_with (at_builtin; (refine wpList_append_trips rfl _ _ 29 rfl w.heap.size 44 Tryd.underlying29 info_clue _ _ [] xs rfl rfl HI.out HX.out hl2 HB.out.size ?_); intro v' w' hI' hg' _; (have HI' := Lib.hid hI'); (have HB' := Lib.hid (Trips.below HI.out HB.out HB.out.size hg')); clear hI' hg')
    go_ret
    exact ⟨_, rfl, HI'.out, HB'.out⟩

set_option maxHeartbeats 1000000 in
theorem iHard_no1 (u : Value) (xs : List Tri) (w : World) (hx : SrcT w u xs) (hW : ClueW w) (hP : ¬ puzzleP xs) : Calls Tryd.prog 32 #[.agg #[u]] w (GivesZ w [] false) := by
  have HX := Lib.hid hx
  have HW := Lib.hid hW
  have HPP := Lib.hid hP
  have HP := Lib.hid (show decide (puzzleP xs) = false from decide_eq_false hP)
  obtain ⟨a0, cap, g, off, rfl, ha, hcap, hcm, _⟩ := hx.form
  clear hx hW hP ha
  go_enter Tryd.func32, Tryd.ntmps32
  go_wp2_with (first | (go_at_call 69; (refine (iIsSolved_no _ xs _ (HX.out.later (by go_grown)) HPP.out (HW.out.later (by go_grown))).mono ?_); rintro e w1 ⟨rfl, hb1⟩; (have c0 : w1.cell? ⟨w.heap.size, 0, none⟩ = some (.slice a0 xs.length cap) := cellB hb1 (by go_simp)); (have c2 : w1.cell? ⟨w.heap.size + 1, 0, none⟩ = some (.slice none 0 0) := cellB hb1 (by go_simp)); (have f2 : w1.frozen? ⟨w.heap.size + 1, 0, none⟩ = false := frozenB hb1 (by simp) (by go_simp)); (have hB1 : Below w.heap.size w w1 := Below.trans (by go_grown) (hb1.mono (by first | omega | (simp; done) | (simp; omega)))); have hz1 := hB1.size; (have hzz : w.heap.size + 1 < w1.heap.size := by have := hb1.size; simp at this; omega)))
  refine bodyPost_ret (v := .tuple #[.agg #[.slice none 0 0], .bool false]) (by simp [results, Tryd.results32, go_sem, c2]) rfl ⟨_, rfl, ?_, ?_⟩
  · exact ⟨World.ownsRow_nil _ _ _ _, fun k hk => by simp [Value.ownBlock] at hk⟩
  · first | exact hB1.setC _ _ (by show _ ≤ w.heap.size + 1; omega) | exact hB1

set_option maxHeartbeats 1000000 in
theorem iHard_no2 (u : Value) (xs : List Tri) (w : World) (hx : SrcT w u xs) (hW : ClueW w) (hP : puzzleP xs) (ho : oneZ xs = false) : Calls Tryd.prog 32 #[.agg #[u]] w (GivesZ w [] false) := by
  have HX := Lib.hid hx
  have HW := Lib.hid hW
  have HPP := Lib.hid hP
  have HP := Lib.hid (show decide (puzzleP xs) = true from decide_eq_true hP)
  have HT := Lib.hid (show ((((solZ xs).length : Nat) : Int) == 1) = false from ho)
  clear ho
  obtain ⟨a0, cap, g, off, rfl, ha, hcap, hcm, _⟩ := hx.form
  clear hx hW hP ha
  go_enter Tryd.func32, Tryd.ntmps32
  go_wp2_with (first | (go_at_call 69; (refine (iIsSolved_yes _ xs _ (HX.out.later (by go_grown)) HPP.out (HW.out.later (by go_grown)) false HT.out).mono ?_); rintro e w1 ⟨rfl, hb1⟩; (have c0 : w1.cell? ⟨w.heap.size, 0, none⟩ = some (.slice a0 xs.length cap) := cellB hb1 (by go_simp)); (have c2 : w1.cell? ⟨w.heap.size + 1, 0, none⟩ = some (.slice none 0 0) := cellB hb1 (by go_simp)); (have f2 : w1.frozen? ⟨w.heap.size + 1, 0, none⟩ = false := frozenB hb1 (by simp) (by go_simp)); (have hB1 : Below w.heap.size w w1 := Below.trans (by go_grown) (hb1.mono (by first | omega | (simp; done) | (simp; omega)))); have hz1 := hB1.size; (have hzz : w.heap.size + 1 < w1.heap.size := by have := hb1.size; simp at this; omega)))
  refine bodyPost_ret (v := .tuple #[.agg #[.slice none 0 0], .bool false]) (by simp [results, Tryd.results32, go_sem, c2]) rfl ⟨_, rfl, ?_, ?_⟩
  · exact ⟨World.ownsRow_nil _ _ _ _, fun k hk => by simp [Value.ownBlock] at hk⟩
  · first | exact hB1.setC _ _ (by show _ ≤ w.heap.size + 1; omega) | exact hB1

set_option maxHeartbeats 1000000 in
theorem sHard_no1 (u : Value) (xs : List Tri) (w : World) (hx : SrcT w u xs) (hW : ClueW w) (hP : ¬ puzzleP xs) : Calls Tryd.prog 31 #[.agg #[u]] w (GivesZ w [] false) := by
  have HX := Lib.hid hx
  have HW := Lib.hid hW
  have HPP := Lib.hid hP
  have HP := Lib.hid (show decide (puzzleP xs) = false from decide_eq_false hP)
  obtain ⟨a0, cap, g, off, rfl, ha, hcap, hcm, _⟩ := hx.form
  clear hx hW hP ha
  go_enter Tryd.func31, Tryd.ntmps31
  go_wp2_with (first | (go_at_call 53; (refine (pzGood_any _ xs false _ (HX.out.later (by go_grown)) HP.out).mono ?_); rintro e w1 ⟨rfl, hb1⟩; (have c0 : w1.cell? ⟨w.heap.size, 0, none⟩ = some (.slice a0 xs.length cap) := cellB hb1 (by go_simp)); (have c2 : w1.cell? ⟨w.heap.size + 1, 0, none⟩ = some (.slice none 0 0) := cellB hb1 (by go_simp)); (have f2 : w1.frozen? ⟨w.heap.size + 1, 0, none⟩ = false := frozenB hb1 (by simp) (by go_simp)); (have hB1 : Below w.heap.size w w1 := Below.trans (by go_grown) (hb1.mono (by first | omega | (simp; done) | (simp; omega)))); have hz1 := hB1.size; (have hzz : w.heap.size + 1 < w1.heap.size := by have := hb1.size; simp at this; omega)))
  refine bodyPost_ret (v := .tuple #[.agg #[.slice none 0 0], .bool false]) (by simp [results, Tryd.results31, go_sem, c2]) rfl ⟨_, rfl, ?_, ?_⟩
  · exact ⟨World.ownsRow_nil _ _ _ _, fun k hk => by simp [Value.ownBlock] at hk⟩
  · first | exact hB1.setC _ _ (by show _ ≤ w.heap.size + 1; omega) | exact hB1

set_option maxHeartbeats 1000000 in
theorem sHard_no2 (u : Value) (xs : List Tri) (w : World) (hx : SrcT w u xs) (hW : ClueW w) (hP : puzzleP xs) (ho : oneZ xs = false) : Calls Tryd.prog 31 #[.agg #[u]] w (GivesZ w [] false) := by
  have HX := Lib.hid hx
  have HW := Lib.hid hW
  have HPP := Lib.hid hP
  have HP := Lib.hid (show decide (puzzleP xs) = true from decide_eq_true hP)
  have HT := Lib.hid (show ((((solZ xs).length : Nat) : Int) == 1) = false from ho)
  clear ho
  obtain ⟨a0, cap, g, off, rfl, ha, hcap, hcm, _⟩ := hx.form
  clear hx hW hP ha
  go_enter Tryd.func31, Tryd.ntmps31
  go_wp2_with (first | (go_at_call 53; (refine (pzGood_any _ xs true _ (HX.out.later (by go_grown)) HP.out).mono ?_); rintro e w1 ⟨rfl, hb1⟩; (have c0 : w1.cell? ⟨w.heap.size, 0, none⟩ = some (.slice a0 xs.length cap) := cellB hb1 (by go_simp)); (have c2 : w1.cell? ⟨w.heap.size + 1, 0, none⟩ = some (.slice none 0 0) := cellB hb1 (by go_simp)); (have f2 : w1.frozen? ⟨w.heap.size + 1, 0, none⟩ = false := frozenB hb1 (by simp) (by go_simp)); (have hB1 : Below w.heap.size w w1 := Below.trans (by go_grown) (hb1.mono (by first | omega | (simp; done) | (simp; omega)))); have hz1 := hB1.size; (have hzz : w.heap.size + 1 < w1.heap.size := by have := hb1.size; simp at this; omega)) | (go_at_call 68; (refine (pzSolved_any _ xs _ (HX.out.later hB1) HPP.out false HT.out).mono ?_); rintro e w2 ⟨rfl, hb2⟩; (have d2 := cellB hb2 c2); (have e0 := cellB hb2 c0); (have r2 : w2.frozen? ⟨w.heap.size + 1, 0, none⟩ = false := frozenB hb2 (by omega) f2); (have hB2 := hB1.trans (hb2.mono hz1)); have hz2 := hb2.size; (have qc := cellB ((Below.refl w2.heap.size w2).alloc (Nat.le_refl _) (.cells #[] 44)) e0)))
  refine bodyPost_ret (v := .tuple #[.agg #[.slice none 0 0], .bool false]) (by simp [results, Tryd.results31, go_sem, d2]) rfl ⟨_, rfl, ?_, ?_⟩
  · exact ⟨World.ownsRow_nil _ _ _ _, fun k hk => by simp [Value.ownBlock] at hk⟩
  · first | exact hB2.setC _ _ (by show _ ≤ w.heap.size + 1; omega) | exact hB2

set_option maxHeartbeats 4000000 in
theorem iHard_yes (u : Value) (xs : List Tri) (w : World) (hx : SrcT w u xs) (hW : ClueW w) (hP : puzzleP xs) (ho : oneZ xs = true) : Calls Tryd.prog 32 #[.agg #[u]] w (GivesZ w (hardZ xs.length 0 xs) true) := by
  have HX := Lib.hid hx
  have HW := Lib.hid hW
  have HPP := Lib.hid hP
  have hl6 := hP.1
  have HP := Lib.hid (show decide (puzzleP xs) = true from decide_eq_true hP)
  have HT := Lib.hid (show ((((solZ xs).length : Nat) : Int) == 1) = true from ho)
  clear ho
  obtain ⟨a0, cap, g, off, rfl, ha, hcap, hcm, _⟩ := hx.form
  obtain ⟨R, hR⟩ : ∃ R, hardZ xs.length 0 xs = R := ⟨_, rfl⟩
  have HR := Lib.hid hR
  rw [hR]
  clear hx hW hP ha hR
  go_enter Tryd.func32, Tryd.ntmps32
  go_wp2_with (first | (go_at_call 69; (refine (iIsSolved_yes _ xs _ (HX.out.later (by go_grown)) HPP.out (HW.out.later (by go_grown)) true HT.out).mono ?_); rintro e w1 ⟨rfl, hb1⟩; (have c0 : w1.cell? ⟨w.heap.size, 0, none⟩ = some (.slice a0 xs.length cap) := cellB hb1 (by go_simp)); (have c2 : w1.cell? ⟨w.heap.size + 1, 0, none⟩ = some (.slice none 0 0) := cellB hb1 (by go_simp)); (have f2 : w1.frozen? ⟨w.heap.size + 1, 0, none⟩ = false := frozenB hb1 (by simp) (by go_simp)); (have hB1 : Below w.heap.size w w1 := Below.trans (by go_grown) (hb1.mono (by first | omega | (simp; done) | (simp; omega)))); have hz1 := hB1.size; (have hzz : w.heap.size + 1 < w1.heap.size := by have := hb1.size; simp at this; omega)) | (go_at_call 70; (refine (cloneT_any _ _ xs _ (HX.out.later hB1) (by omega)).mono ?_); rintro e w3 ⟨v3, rfl, hI3, hb3⟩; (have d2 := cellB hb3 c2); (have r2 : w3.frozen? ⟨w.heap.size + 1, 0, none⟩ = false := frozenB hb3 (by omega) f2); (have hB3 := hB1.trans (hb3.mono hz1)); have hz3 := hb3.size; (have hz4 : w.heap.size + 1 < w1.heap.size := hzz)))
  obtain ⟨a3, cc3, g3, hv3, _⟩ := hI3.view
  subst hv3
  have HI3 := Lib.hid hI3
  clear hI3
  go_loopw [6, 7] (fun v i wr => ∃ (ks : List Tri) (k : Nat) (a : Option Addr) (c : Nat), v = .slice a ks.length c ∧ i = .int .i64 k ∧ k ≤ ks.length ∧ ks.length ≤ 6 ∧ Hid (hardZ (ks.length - k) k ks = R) ∧ Hid (puzzleP ks) ∧ Hid (Trips wr w1.heap.size 44 (.slice a ks.length c) ks) ∧ Below w3.heap.size w3 wr) (fun v i _ => lenOfV v - (intOf i).toNat)
  case atStart => exact ⟨xs, 0, a3, cc3, rfl, rfl, by omega, hl6, Lib.hid (by rw [Nat.sub_zero]; exact HR.out), HPP, Lib.hid HI3.out, Below.refl _ _⟩
  case round =>
    obtain ⟨ks, k, a, c, rfl, rfl, hk, hk6, HH, HPK, HI, hB⟩ := hrel
    have hz := hB.size
    have e2 := cellB hB d2
    have q2 : wr.frozen? ⟨w.heap.size + 1, 0, none⟩ = false := frozenB hB (by omega) r2
    by_cases hlt : k < ks.length
    · have k0 : (k : Int) < (ks.length : Int) := by omega
      have HK := Lib.hid hlt
      have HL := Lib.hid (outZ_length hlt)
      obtain ⟨m, hm⟩ : ∃ m, ks.length - k = m + 1 := ⟨ks.length - k - 1, by omega⟩
      have HM := Lib.hid hm
      clear hm
      cases hone : oneZ (outZ ks k) with
      | true =>
        have HO := Lib.hid (show ((((solZ (outZ ks k)).length : Nat) : Int) == 1) = true from hone)
        have HS := Lib.hid (hardZ_out (n := m) hlt hone)
        clear hone
        go_wp2_with (first | (go_at_call 63; (refine (iWithout_any _ ks k _ HI.out.src HK.out (by omega)).mono ?_); rintro e w4 ⟨v4, rfl, hI4, hb4⟩; (have HI4 := Lib.hid hI4); (have hz4' := hb4.size); clear hI4; (obtain ⟨a4, c4, g4, hv4, _⟩ := HI4.out.1.view); subst hv4) | (go_at_call 71; (refine (areSolved_any _ (outZ ks k) _ HI4.out.1.src (HPK.out.sub (outZ_sub ks k)) true HO.out).mono ?_); rintro e w5 ⟨rfl, hb5⟩; (have hb45 := hb4.trans (hb5.mono hz4')); (have hB5 := hB.trans (hb45.mono (by omega)))))
        go_roundw
        case rel => exact ⟨outZ ks k, k, a4, c4, rfl, rfl, by have := HL.out; omega, by have := HL.out; omega, Lib.hid (by have e := HH.out; rw [HM.out, HS.out] at e; rw [show (outZ ks k).length - k = m by have := HL.out; have := HM.out; omega]; exact e), Lib.hid (HPK.out.sub (outZ_sub ks k)), Lib.hid ((HI4.out.1.mono (by omega)).later hb5), hB5⟩
        case measure => have := HL.out; simp [intOf, lenOfV]; omega
      | false =>
        have HO := Lib.hid (show ((((solZ (outZ ks k)).length : Nat) : Int) == 1) = false from hone)
        have HS := Lib.hid (hardZ_in (n := m) hlt hone)
        clear hone
        go_wp2_with (first | (go_at_call 63; (refine (iWithout_any _ ks k _ HI.out.src HK.out (by omega)).mono ?_); rintro e w4 ⟨v4, rfl, hI4, hb4⟩; (have HI4 := Lib.hid hI4); (have hz4' := hb4.size); clear hI4; (obtain ⟨a4, c4, g4, hv4, _⟩ := HI4.out.1.view); subst hv4) | (go_at_call 71; (refine (areSolved_any _ (outZ ks k) _ HI4.out.1.src (HPK.out.sub (outZ_sub ks k)) false HO.out).mono ?_); rintro e w5 ⟨rfl, hb5⟩; (have hb45 := hb4.trans (hb5.mono hz4')); (have hB5 := hB.trans (hb45.mono (by omega)))))
        go_roundw
        case rel => exact ⟨ks, k + 1, a, c, rfl, by go_num, by omega, hk6, Lib.hid (by have e := HH.out; rw [HM.out, HS.out] at e; rw [show ks.length - (k + 1) = m by have := HM.out; omega]; exact e), HPK, Lib.hid (HI.out.later hb45), hB5⟩
        case measure => simp [intOf, lenOfV]; omega
    · obtain rfl : k = ks.length := by omega
      have HE : Hid (ks = R) := Lib.hid (by have e := HH.out; rw [hardZ_end (by omega)] at e; exact e)
      have h0 : ¬ (ks.length : Int) < (ks.length : Int) := by omega
      go_wp2
      refine bodyPost_ret (v := .tuple #[.agg #[.slice a ks.length c], .bool true]) (by simp [results, Tryd.results32, go_sem, e2]) rfl ⟨_, rfl, ?_, ?_⟩
      · rw [← HE.out]
        have h9 := HI.out.mono (B' := w.heap.size + 2) (by omega)
        exact ((h9.inn.setC _ _ (by show w.heap.size + 1 < _; omega)).wider (by omega) (by simp))
      · exact (hB3.trans (hB.mono (by omega))).setC _ _ (by show _ ≤ w.heap.size + 1; omega)

set_option maxHeartbeats 4000000 in
theorem sHard_yes (u : Value) (xs : List Tri) (w : World) (hx : SrcT w u xs) (hW : ClueW w) (hP : puzzleP xs) (ho : oneZ xs = true) : Calls Tryd.prog 31 #[.agg #[u]] w (GivesZ w (hardZ xs.length 0 xs) true) := by
  have HX := Lib.hid hx
  have HW := Lib.hid hW
  have HPP := Lib.hid hP
  have hl6 := hP.1
  have HP := Lib.hid (show decide (puzzleP xs) = true from decide_eq_true hP)
  have HT := Lib.hid (show ((((solZ xs).length : Nat) : Int) == 1) = true from ho)
  clear ho
  obtain ⟨a0, cap, g, off, rfl, ha, hcap, hcm, _⟩ := hx.form
  obtain ⟨R, hR⟩ : ∃ R, hardZ xs.length 0 xs = R := ⟨_, rfl⟩
  have HR := Lib.hid hR
  rw [hR]
  clear hx hW hP ha hR
  go_enter Tryd.func31, Tryd.ntmps31
  go_wp2_with (first | (go_at_call 53; (refine (pzGood_any _ xs true _ (HX.out.later (by go_grown)) HP.out).mono ?_); rintro e w1 ⟨rfl, hb1⟩; (have c0 : w1.cell? ⟨w.heap.size, 0, none⟩ = some (.slice a0 xs.length cap) := cellB hb1 (by go_simp)); (have c2 : w1.cell? ⟨w.heap.size + 1, 0, none⟩ = some (.slice none 0 0) := cellB hb1 (by go_simp)); (have f2 : w1.frozen? ⟨w.heap.size + 1, 0, none⟩ = false := frozenB hb1 (by simp) (by go_simp)); (have hB1 : Below w.heap.size w w1 := Below.trans (by go_grown) (hb1.mono (by first | omega | (simp; done) | (simp; omega)))); have hz1 := hB1.size; (have hzz : w.heap.size + 1 < w1.heap.size := by have := hb1.size; simp at this; omega)) | (go_at_call 68; (refine (pzSolved_any _ xs _ (HX.out.later hB1) HPP.out true HT.out).mono ?_); rintro e w2 ⟨rfl, hb2⟩; (have d2 := cellB hb2 c2); (have e0 := cellB hb2 c0); (have r2 : w2.frozen? ⟨w.heap.size + 1, 0, none⟩ = false := frozenB hb2 (by omega) f2); (have hB2 := hB1.trans (hb2.mono hz1)); have hz2 := hb2.size; (have qc := cellB ((Below.refl w2.heap.size w2).alloc (Nat.le_refl _) (.cells #[] 44)) e0)) | (at_builtin; go_loud ((refine wpList_append_trips rfl _ _ 29 rfl w2.heap.size 44 Tryd.underlying29 info_clue _ _ [] xs rfl rfl (Trips.boxed w2 w2.heap.size 44 [] (Nat.le_refl _) (by simp)) (HX.out.later (hB2.alloc (by omega) _)) (by simp; omega) (by simp) ?_); intro v3 w3 hI3' hg3 _; (have hbb3 : Below w2.heap.size w2 w3 := Trips.below (Trips.boxed w2 w2.heap.size 44 [] (Nat.le_refl _) (by simp)) ((Below.refl _ _).alloc (Nat.le_refl _) _) (by simp) hg3); (have hI3 : Trips w3 w2.heap.size 44 v3 xs := by simpa using hI3'); (have e2 := cellB hbb3 d2); clear d2; (have d2 := e2); (have rr2 : w3.frozen? ⟨w.heap.size + 1, 0, none⟩ = false := frozenB hbb3 (by omega) r2); clear r2; (have r2 := rr2); (have hB3 := hB2.trans (hbb3.mono (by omega))); have hz3 := hbb3.size; clear hI3')))
  obtain ⟨a3, cc3, g3, hv3, _⟩ := hI3.view
  subst hv3
  have HI3 := Lib.hid hI3
  clear hI3
  go_loopw [4, 5] (fun v i wr => ∃ (ks : List Tri) (k : Nat) (a : Option Addr) (c : Nat), v = .slice a ks.length c ∧ i = .int .i64 k ∧ k ≤ ks.length ∧ ks.length ≤ 6 ∧ Hid (hardZ (ks.length - k) k ks = R) ∧ Hid (puzzleP ks) ∧ Hid (Trips wr w2.heap.size 44 (.slice a ks.length c) ks) ∧ Below w3.heap.size w3 wr) (fun v i _ => lenOfV v - (intOf i).toNat)
  case atStart => exact ⟨xs, 0, a3, cc3, rfl, rfl, by omega, hl6, Lib.hid (by rw [Nat.sub_zero]; exact HR.out), HPP, Lib.hid HI3.out, Below.refl _ _⟩
  case round =>
    obtain ⟨ks, k, a, c, rfl, rfl, hk, hk6, HH, HPK, HI, hB⟩ := hrel
    have hz := hB.size
    have e2 := cellB hB d2
    have q2 : wr.frozen? ⟨w.heap.size + 1, 0, none⟩ = false := frozenB hB (by omega) r2
    by_cases hlt : k < ks.length
    · have k0 : (k : Int) < (ks.length : Int) := by omega
      have HK := Lib.hid hlt
      have HL := Lib.hid (outZ_length hlt)
      obtain ⟨m, hm⟩ : ∃ m, ks.length - k = m + 1 := ⟨ks.length - k - 1, by omega⟩
      have HM := Lib.hid hm
      clear hm
      cases hone : oneZ (outZ ks k) with
      | true =>
        have HO := Lib.hid (show ((((solZ (outZ ks k)).length : Nat) : Int) == 1) = true from hone)
        have HS := Lib.hid (hardZ_out (n := m) hlt hone)
        clear hone
        go_wp2_with (first | (go_at_call 55; (refine (pzWithout_any _ ks k _ HI.out.src HK.out (by omega)).mono ?_); rintro e w4 ⟨v4, rfl, hI4, hb4⟩; (have HI4 := Lib.hid hI4); (have hz4' := hb4.size); clear hI4; (obtain ⟨a4, c4, g4, hv4, _⟩ := HI4.out.1.view); subst hv4) | (go_at_call 68; (refine (pzSolved_any _ (outZ ks k) _ HI4.out.1.src (HPK.out.sub (outZ_sub ks k)) true HO.out).mono ?_); rintro e w5 ⟨rfl, hb5⟩; (have hb45 := hb4.trans (hb5.mono hz4')); (have hB5 := hB.trans (hb45.mono (by omega)))))
        go_roundw
        case rel => exact ⟨outZ ks k, k, a4, c4, rfl, rfl, by have := HL.out; omega, by have := HL.out; omega, Lib.hid (by have e := HH.out; rw [HM.out, HS.out] at e; rw [show (outZ ks k).length - k = m by have := HL.out; have := HM.out; omega]; exact e), Lib.hid (HPK.out.sub (outZ_sub ks k)), Lib.hid ((HI4.out.1.mono (by omega)).later hb5), hB5⟩
        case measure => have := HL.out; simp [intOf, lenOfV]; omega
      | false =>
        have HO := Lib.hid (show ((((solZ (outZ ks k)).length : Nat) : Int) == 1) = false from hone)
        have HS := Lib.hid (hardZ_in (n := m) hlt hone)
        clear hone
        go_wp2_with (first | (go_at_call 55; (refine (pzWithout_any _ ks k _ HI.out.src HK.out (by omega)).mono ?_); rintro e w4 ⟨v4, rfl, hI4, hb4⟩; (have HI4 := Lib.hid hI4); (have hz4' := hb4.size); clear hI4; (obtain ⟨a4, c4, g4, hv4, _⟩ := HI4.out.1.view); subst hv4) | (go_at_call 68; (refine (pzSolved_any _ (outZ ks k) _ HI4.out.1.src (HPK.out.sub (outZ_sub ks k)) false HO.out).mono ?_); rintro e w5 ⟨rfl, hb5⟩; (have hb45 := hb4.trans (hb5.mono hz4')); (have hB5 := hB.trans (hb45.mono (by omega)))))
        go_roundw
        case rel => exact ⟨ks, k + 1, a, c, rfl, by go_num, by omega, hk6, Lib.hid (by have e := HH.out; rw [HM.out, HS.out] at e; rw [show ks.length - (k + 1) = m by have := HM.out; omega]; exact e), HPK, Lib.hid (HI.out.later hb45), hB5⟩
        case measure => simp [intOf, lenOfV]; omega
    · obtain rfl : k = ks.length := by omega
      have HE : Hid (ks = R) := Lib.hid (by have e := HH.out; rw [hardZ_end (by omega)] at e; exact e)
      have h0 : ¬ (ks.length : Int) < (ks.length : Int) := by omega
      go_wp2
      refine bodyPost_ret (v := .tuple #[.agg #[.slice a ks.length c], .bool true]) (by simp [results, Tryd.results31, go_sem, e2]) rfl ⟨_, rfl, ?_, ?_⟩
      · rw [← HE.out]
        have h9 := HI.out.mono (B' := w.heap.size + 2) (by omega)
        exact ((h9.inn.setC _ _ (by show w.heap.size + 1 < _; omega)).wider (by omega) (by simp))
      · exact (hB3.trans (hB.mono (by omega))).setC _ _ (by show _ ≤ w.heap.size + 1; omega)

set_option maxHeartbeats 2000000 in
theorem core_HarderPuzzle (v : Value) (xs : List Tri) (x : List Tri) (b : Bool) (w : World) (hA : ArgT w v xs) (hW : ClueW w) (hn : xs.length ≤ 1048576) (hx : x.length ≤ 1000000)
    (hs : ∀ (W : World) (u : Value) (B T : Nat), ClueW W → TripsIn 44 W B T u xs → T ≤ W.heap.size → Calls Tryd.prog 31 #[.agg #[u]] W (GivesZ W x b))
    (hi : ∀ (W : World) (u : Value) (B T : Nat), ClueW W → TripsIn 44 W B T u xs → T ≤ W.heap.size → Calls Tryd.prog 32 #[.agg #[u]] W (GivesZ W x b)) :
    Calls Tryd.prog 7 #[.agg #[v]] w fun e w' => e = .returned (.bool true) ∧ Below w.heap.size w w' := by
  have hA1 := hA
  obtain ⟨a0, cap, a, rfl, _⟩ := hA1
  have HS := Lib.hid hs
  have HI := Lib.hid hi
  have HA := Lib.hid hA
  have HW := Lib.hid hW
  clear hs hi hA hW
  go_enter Tryd.func7, Tryd.ntmps7
  go_wp2_with fail
  refine (szPuzzle_yes _ _ _ _ hn).mono ?_
  rintro e w1 ⟨rfl, hx1⟩
  have hb1 : Below w.heap.size w w1 := Below.trans (by go_grown) (hx1.mono (by first | omega | (simp; done) | (simp; omega)))
  have n1 : w.heap.size + 1 ≤ w1.heap.size := by have := hx1.size; (try simp at this); omega
  have B1 : Below w.heap.size w w1 := hb1
  have zp1 : w1.cell? ⟨w.heap.size, 0, none⟩ = some (.slice a0 xs.length cap) := cellB hx1 (by go_simp)
  go_wp2_with fail
  refine (toPuzzle_any _ _ _ (HA.out.later B1) hn).mono ?_
  rintro e w2 ⟨va, rfl, ka_2, hx2⟩
  have hb2 : Below w1.heap.size w1 w2 := Below.trans (by go_grown) (hx2.mono (by first | omega | (simp; done) | (simp; omega)))
  have n2 : w1.heap.size + 0 ≤ w2.heap.size := by have := hx2.size; (try simp at this); omega
  have B2 : Below w.heap.size w w2 := B1.trans (hb2.mono (by omega))
  have zp2 := cellB hb2 zp1
  clear zp1
  obtain ⟨aa, ma, ca, hva⟩ := own_formT ka_2.1
  subst hva
  go_wp2_with fail
  refine (HS.out _ _ _ _ (HW.out.later B2) ka_2 (by first | omega | (simp; done) | (simp; omega))).mono ?_
  rintro e w3 ⟨vw, rfl, kw_3, hx3⟩
  have hb3 : Below w2.heap.size w2 w3 := Below.trans (by go_grown) (hx3.mono (by first | omega | (simp; done) | (simp; omega)))
  have n3 : w2.heap.size + 0 ≤ w3.heap.size := by have := hx3.size; (try simp at this); omega
  have B3 : Below w.heap.size w w3 := B2.trans (hb3.mono (by omega))
  have zp3 := cellB hb3 zp2
  clear zp2
  have ka_3 := ka_2.keep (belowSame hb3 (by omega))
  obtain ⟨aw, mw, cw, hvw⟩ := own_formT kw_3.1
  subst hvw
  have qzpzw := cellB ((Below.refl w3.heap.size w3).alloc (Nat.le_refl _) (.cells #[Value.slice aw mw cw] 31)) zp3
  go_wp2_with fail
  refine (toPuzzle_any _ _ _ (HA.out.later (Below.trans B3 (by go_grown))) hn).mono ?_
  rintro e w4 ⟨vc, rfl, kc_4, hx4⟩
  simp only [World.size_alloc] at kc_4
  have hb4 : Below w3.heap.size w3 w4 := Below.trans (by go_grown) (hx4.mono (by first | omega | (simp; done) | (simp; omega)))
  have n4 : w3.heap.size + 1 ≤ w4.heap.size := by have := hx4.size; (try simp at this); omega
  have B4 : Below w.heap.size w w4 := B3.trans (hb4.mono (by omega))
  have zp4 := cellB hb4 zp3
  clear zp3
  have zw4 : w4.cell? ⟨w3.heap.size, 0, none⟩ = some (.slice aw mw cw) := cellB hx4 (by go_simp)
  have ka_4 := ka_3.keep (belowSame hb4 (by omega))
  have kw_4 := kw_3.keep (belowSame hb4 (by omega))
  obtain ⟨ac, mc, cc, hvc⟩ := own_formT kc_4.1
  subst hvc
  go_wp2_with fail
  refine (HI.out _ _ _ _ (HW.out.later (Below.trans B4 (by go_grown))) (kc_4.keep (belowSame (by go_grown) (by first | omega | (simp; done) | (simp; omega)))) (by first | omega | (simp; done) | (simp; omega))).mono ?_
  rintro e w5 ⟨vg, rfl, kg_5, hx5⟩
  simp only [World.size_alloc] at kg_5
  have hb5 : Below w4.heap.size w4 w5 := Below.trans (by go_grown) (hx5.mono (by first | omega | (simp; done) | (simp; omega)))
  have n5 : w4.heap.size + 1 ≤ w5.heap.size := by have := hx5.size; (try simp at this); omega
  have B5 : Below w.heap.size w w5 := B4.trans (hb5.mono (by omega))
  have zp5 := cellB hb5 zp4
  have zw5 := cellB hb5 zw4
  clear zp4 zw4
  have zc5 : w5.cell? ⟨w4.heap.size, 0, none⟩ = some (.slice ac mc cc) := cellB hx5 (by go_simp)
  have ka_5 := ka_4.keep (belowSame hb5 (by omega))
  have kw_5 := kw_4.keep (belowSame hb5 (by omega))
  have kc_5 := kc_4.keep (belowSame hb5 (by omega))
  obtain ⟨ag, mg, cg, hvg⟩ := own_formT kg_5.1
  subst hvg
  have qzpzg := cellB ((Below.refl w5.heap.size w5).alloc (Nat.le_refl _) (.cells #[Value.slice ag mg cg] 31)) zp5
  have qzwzg := cellB ((Below.refl w5.heap.size w5).alloc (Nat.le_refl _) (.cells #[Value.slice ag mg cg] 31)) zw5
  have qzczg := cellB ((Below.refl w5.heap.size w5).alloc (Nat.le_refl _) (.cells #[Value.slice ag mg cg] 31)) zc5
  go_wp2_with fail
  refine (eqPuzzle_in _ _ x _ _ _ _ _ _ (kg_5.keep (belowSame (by go_grown) (by first | omega | (simp; done) | (simp; omega)))) (kw_5.keep (belowSame (by go_grown) (by first | omega | (simp; done) | (simp; omega)))) (by first | omega | (simp; done) | (simp; omega)) (by first | omega | (simp; done) | (simp; omega))).mono ?_
  rintro e w6 ⟨rfl, hx6⟩
  have hb6 : Below w5.heap.size w5 w6 := Below.trans (by go_grown) (hx6.mono (by first | omega | (simp; done) | (simp; omega)))
  have n6 : w5.heap.size + 1 ≤ w6.heap.size := by have := hx6.size; (try simp at this); omega
  have B6 : Below w.heap.size w w6 := B5.trans (hb6.mono (by omega))
  have zp6 := cellB hb6 zp5
  have zw6 := cellB hb6 zw5
  have zc6 := cellB hb6 zc5
  clear zp5 zw5 zc5
  have zg6 : w6.cell? ⟨w5.heap.size, 0, none⟩ = some (.slice ag mg cg) := cellB hx6 (by go_simp)
  have ka_6 := ka_5.keep (belowSame hb6 (by omega))
  have kw_6 := kw_5.keep (belowSame hb6 (by omega))
  have kc_6 := kc_5.keep (belowSame hb6 (by omega))
  have kg_6 := kg_5.keep (belowSame hb6 (by omega))
  go_wp2
  go_region_held3 (fun w' => w'.cell? ⟨w.heap.size, 0, none⟩ = some (.slice a0 xs.length cap) ∧ w'.cell? ⟨w3.heap.size, 0, none⟩ = some (.slice aw mw cw) ∧ w'.cell? ⟨w4.heap.size, 0, none⟩ = some (.slice ac mc cc) ∧ w'.cell? ⟨w5.heap.size, 0, none⟩ = some (.slice ag mg cg)) (go_keep)
    (first | (go_at_call 16; refine (toPuzzle_any _ _ _ (HA.out.later (Below.trans B6 (by go_grown))) hn).mono ?_; rintro e w7 ⟨vd, rfl, kd_7, hx7⟩; (have kd_7 := kd_7.wider (B' := w6.heap.size + 0) (by first | exact Nat.le_refl _ | (simp; done) | (simp; omega)) (Nat.le_refl _)); (have hb7 : Below w6.heap.size w6 w7 := Below.trans (by go_grown) (hx7.mono (by first | omega | (simp; done) | (simp; omega)))); (have n7 : w6.heap.size + 0 ≤ w7.heap.size := by have := hx7.size; (try simp at this); omega); (have B7 : Below w.heap.size w w7 := B6.trans (hb7.mono (by omega))); (have zp7 := cellB hb7 zp6); (have zw7 := cellB hb7 zw6); (have zc7 := cellB hb7 zc6); (have zg7 := cellB hb7 zg6); (have ka_7 := ka_6.keep (belowSame hb7 (by omega))); (have kw_7 := kw_6.keep (belowSame hb7 (by omega))); (have kc_7 := kc_6.keep (belowSame hb7 (by omega))); (have kg_7 := kg_6.keep (belowSame hb7 (by omega))); (obtain ⟨ad, md, cd, hvd⟩ := own_formT kd_7.1); subst hvd) | (go_at_call 19; refine (eqPuzzle_in _ _ _ _ _ _ _ _ _ (kc_7.keep (belowSame (by go_grown) (by first | omega | (simp; done) | (simp; omega)))) (kd_7.keep (belowSame (by go_grown) (by first | omega | (simp; done) | (simp; omega)))) (by first | omega | (simp; done) | (simp; omega)) (by first | omega | (simp; done) | (simp; omega))).mono ?_; rintro e w8 ⟨rfl, hx8⟩; (have hb8 : Below w7.heap.size w7 w8 := Below.trans (by go_grown) (hx8.mono (by first | omega | (simp; done) | (simp; omega)))); (have n8 : w7.heap.size + 0 ≤ w8.heap.size := by have := hx8.size; (try simp at this); omega); (have B8 : Below w.heap.size w w8 := B7.trans (hb8.mono (by omega))); (have zp8 := cellB hb8 zp7); (have zw8 := cellB hb8 zw7); (have zc8 := cellB hb8 zc7); (have zg8 := cellB hb8 zg7); (have ka_8 := ka_7.keep (belowSame hb8 (by omega))); (have kw_8 := kw_7.keep (belowSame hb8 (by omega))); (have kc_8 := kc_7.keep (belowSame hb8 (by omega))); (have kg_8 := kg_7.keep (belowSame hb8 (by omega))); (have kd_8 := kd_7.keep (belowSame hb8 (by omega)))))
  go_wp2_with fail
  refine (markPuzzle_in _ _ 1 _ _ _ _ kc_8 (by omega) (by omega) (by omega) (by omega)).mono ?_
  rintro e w9 ⟨rfl, kc_9, o9⟩
  have n9 := o9.size
  have B9 := B8.trans (o9.below (C := w.heap.size) (by omega) (by omega))
  have zp9 := o9.cell (by omega) zp8
  have zw9 := o9.cell (by omega) zw8
  have zc9 := o9.cell (by omega) zc8
  have zg9 := o9.cell (by omega) zg8
  clear zp8 zw8 zc8 zg8
  have ka_9 := ka_8.keep (o9.same_in (by omega) (by omega))
  have kw_9 := kw_8.keep (o9.same_in (by omega) (by omega))
  have kg_9 := kg_8.keep (o9.same_in (by omega) (by omega))
  have kd_9 := kd_8.keep (o9.same_in (by omega) (by omega))
  go_wp2_with fail
  refine (eqPuzzle_in _ _ x _ _ _ _ _ _ kg_9 kw_9 (by first | omega | (simp; done) | (simp; omega)) (by first | omega | (simp; done) | (simp; omega))).mono ?_
  rintro e w10 ⟨rfl, hx10⟩
  have hb10 : Below w9.heap.size w9 w10 := Below.trans (by go_grown) (hx10.mono (by first | omega | (simp; done) | (simp; omega)))
  have n10 : w9.heap.size + 0 ≤ w10.heap.size := by have := hx10.size; (try simp at this); omega
  have B10 : Below w.heap.size w w10 := B9.trans (hb10.mono (by omega))
  have zp10 := cellB hb10 zp9
  have zw10 := cellB hb10 zw9
  have zc10 := cellB hb10 zc9
  have zg10 := cellB hb10 zg9
  clear zp9 zw9 zc9 zg9
  have ka_10 := ka_9.keep (belowSame hb10 (by omega))
  have kw_10 := kw_9.keep (belowSame hb10 (by omega))
  have kc_10 := kc_9.keep (belowSame hb10 (by omega))
  have kg_10 := kg_9.keep (belowSame hb10 (by omega))
  have kd_10 := kd_9.keep (belowSame hb10 (by omega))
  go_wp2_with fail
  refine (markPuzzle_in _ x 1 _ _ _ _ kg_10 (by omega) (by omega) (by omega) (by omega)).mono ?_
  rintro e w11 ⟨rfl, kg_11, o11⟩
  have n11 := o11.size
  have B11 := B10.trans (o11.below (C := w.heap.size) (by omega) (by omega))
  have zp11 := o11.cell (by omega) zp10
  have zw11 := o11.cell (by omega) zw10
  have zc11 := o11.cell (by omega) zc10
  have zg11 := o11.cell (by omega) zg10
  clear zp10 zw10 zc10 zg10
  have ka_11 := ka_10.keep (o11.same_in (by omega) (by omega))
  have kw_11 := kw_10.keep (o11.same_in (by omega) (by omega))
  have kc_11 := kc_10.keep (o11.same_in (by omega) (by omega))
  have kd_11 := kd_10.keep (o11.same_in (by omega) (by omega))
  go_wp2_with fail
  refine (heldPuzzle_in _ 1 x.length _ _ _ _ kg_11 (by omega) (by omega) (by omega) (by omega)).mono ?_
  rintro e w12 ⟨rfl, hx12⟩
  have hb12 : Below w11.heap.size w11 w12 := Below.trans (by go_grown) (hx12.mono (by first | omega | (simp; done) | (simp; omega)))
  have n12 : w11.heap.size + 0 ≤ w12.heap.size := by have := hx12.size; (try simp at this); omega
  have B12 : Below w.heap.size w w12 := B11.trans (hb12.mono (by omega))
  have zp12 := cellB hb12 zp11
  have zw12 := cellB hb12 zw11
  have zc12 := cellB hb12 zc11
  have zg12 := cellB hb12 zg11
  clear zp11 zw11 zc11 zg11
  have ka_12 := ka_11.keep (belowSame hb12 (by omega))
  have kw_12 := kw_11.keep (belowSame hb12 (by omega))
  have kc_12 := kc_11.keep (belowSame hb12 (by omega))
  have kg_12 := kg_11.keep (belowSame hb12 (by omega))
  have kd_12 := kd_11.keep (belowSame hb12 (by omega))
  go_wp2_with fail
  refine (toPuzzle_any _ _ _ (HA.out.later B12) hn).mono ?_
  rintro e w13 ⟨ve, rfl, ke_13, hx13⟩
  have hb13 : Below w12.heap.size w12 w13 := Below.trans (by go_grown) (hx13.mono (by first | omega | (simp; done) | (simp; omega)))
  have n13 : w12.heap.size + 0 ≤ w13.heap.size := by have := hx13.size; (try simp at this); omega
  have B13 : Below w.heap.size w w13 := B12.trans (hb13.mono (by omega))
  have zp13 := cellB hb13 zp12
  have zw13 := cellB hb13 zw12
  have zc13 := cellB hb13 zc12
  have zg13 := cellB hb13 zg12
  clear zp12 zw12 zc12 zg12
  have ka_13 := ka_12.keep (belowSame hb13 (by omega))
  have kw_13 := kw_12.keep (belowSame hb13 (by omega))
  have kc_13 := kc_12.keep (belowSame hb13 (by omega))
  have kg_13 := kg_12.keep (belowSame hb13 (by omega))
  have kd_13 := kd_12.keep (belowSame hb13 (by omega))
  obtain ⟨ae, me, ce, hve⟩ := own_formT ke_13.1
  subst hve
  go_wp2_with fail
  refine (HI.out _ _ _ _ (HW.out.later B13) ke_13 (by first | omega | (simp; done) | (simp; omega))).mono ?_
  rintro e w14 ⟨vh, rfl, kh_14, hx14⟩
  have hb14 : Below w13.heap.size w13 w14 := Below.trans (by go_grown) (hx14.mono (by first | omega | (simp; done) | (simp; omega)))
  have n14 : w13.heap.size + 0 ≤ w14.heap.size := by have := hx14.size; (try simp at this); omega
  have B14 : Below w.heap.size w w14 := B13.trans (hb14.mono (by omega))
  have zp14 := cellB hb14 zp13
  have zw14 := cellB hb14 zw13
  have zc14 := cellB hb14 zc13
  have zg14 := cellB hb14 zg13
  clear zp13 zw13 zc13 zg13
  have ka_14 := ka_13.keep (belowSame hb14 (by omega))
  have kw_14 := kw_13.keep (belowSame hb14 (by omega))
  have kc_14 := kc_13.keep (belowSame hb14 (by omega))
  have kg_14 := kg_13.keep (belowSame hb14 (by omega))
  have kd_14 := kd_13.keep (belowSame hb14 (by omega))
  have ke_14 := ke_13.keep (belowSame hb14 (by omega))
  obtain ⟨ah, mh, ch, hvh⟩ := own_formT kh_14.1
  subst hvh
  have qzpzh := cellB ((Below.refl w14.heap.size w14).alloc (Nat.le_refl _) (.cells #[Value.slice ah mh ch] 31)) zp14
  have qzwzh := cellB ((Below.refl w14.heap.size w14).alloc (Nat.le_refl _) (.cells #[Value.slice ah mh ch] 31)) zw14
  have qzczh := cellB ((Below.refl w14.heap.size w14).alloc (Nat.le_refl _) (.cells #[Value.slice ah mh ch] 31)) zc14
  have qzgzh := cellB ((Below.refl w14.heap.size w14).alloc (Nat.le_refl _) (.cells #[Value.slice ah mh ch] 31)) zg14
  go_wp2_with fail
  refine (eqPuzzle_in _ _ x _ _ _ _ _ _ (kh_14.keep (belowSame (by go_grown) (by first | omega | (simp; done) | (simp; omega)))) (kw_14.keep (belowSame (by go_grown) (by first | omega | (simp; done) | (simp; omega)))) (by first | omega | (simp; done) | (simp; omega)) (by first | omega | (simp; done) | (simp; omega))).mono ?_
  rintro e w15 ⟨rfl, hx15⟩
  have hb15 : Below w14.heap.size w14 w15 := Below.trans (by go_grown) (hx15.mono (by first | omega | (simp; done) | (simp; omega)))
  have n15 : w14.heap.size + 1 ≤ w15.heap.size := by have := hx15.size; (try simp at this); omega
  have B15 : Below w.heap.size w w15 := B14.trans (hb15.mono (by omega))
  have zp15 := cellB hb15 zp14
  have zw15 := cellB hb15 zw14
  have zc15 := cellB hb15 zc14
  have zg15 := cellB hb15 zg14
  clear zp14 zw14 zc14 zg14
  have zh15 : w15.cell? ⟨w14.heap.size, 0, none⟩ = some (.slice ah mh ch) := cellB hx15 (by go_simp)
  have ka_15 := ka_14.keep (belowSame hb15 (by omega))
  have kw_15 := kw_14.keep (belowSame hb15 (by omega))
  have kc_15 := kc_14.keep (belowSame hb15 (by omega))
  have kg_15 := kg_14.keep (belowSame hb15 (by omega))
  have kd_15 := kd_14.keep (belowSame hb15 (by omega))
  have ke_15 := ke_14.keep (belowSame hb15 (by omega))
  have kh_15 := kh_14.keep (belowSame hb15 (by omega))
  go_wp2_with fail
  refine (heldPuzzle_in _ 1 x.length _ _ _ _ kg_15 (by omega) (by omega) (by omega) (by omega)).mono ?_
  rintro e w16 ⟨rfl, hx16⟩
  have hb16 : Below w15.heap.size w15 w16 := Below.trans (by go_grown) (hx16.mono (by first | omega | (simp; done) | (simp; omega)))
  have n16 : w15.heap.size + 0 ≤ w16.heap.size := by have := hx16.size; (try simp at this); omega
  have B16 : Below w.heap.size w w16 := B15.trans (hb16.mono (by omega))
  have zp16 := cellB hb16 zp15
  have zw16 := cellB hb16 zw15
  have zc16 := cellB hb16 zc15
  have zg16 := cellB hb16 zg15
  have zh16 := cellB hb16 zh15
  clear zp15 zw15 zc15 zg15 zh15
  have ka_16 := ka_15.keep (belowSame hb16 (by omega))
  have kw_16 := kw_15.keep (belowSame hb16 (by omega))
  have kc_16 := kc_15.keep (belowSame hb16 (by omega))
  have kg_16 := kg_15.keep (belowSame hb16 (by omega))
  have kd_16 := kd_15.keep (belowSame hb16 (by omega))
  have ke_16 := ke_15.keep (belowSame hb16 (by omega))
  have kh_16 := kh_15.keep (belowSame hb16 (by omega))
  go_wp2_with fail
  go_ret
  exact ⟨rfl, B16⟩

set_option maxHeartbeats 400000 in
theorem long_HarderPuzzle (v : Value) (xs : List Tri) (w : World) (hA : ArgT w v xs) (hn : ¬ xs.length ≤ 1048576) :
    Calls Tryd.prog 7 #[.agg #[v]] w fun e w' => e = .returned (.bool true) ∧ Below w.heap.size w w' := by
  obtain ⟨a0, cap, a, rfl, _, hm, _⟩ := hA
  go_enter Tryd.func7, Tryd.ntmps7
  go_wp2_with fail
  refine (szPuzzle_no _ _ _ _ (by omega) hm).mono ?_
  rintro e w0 ⟨rfl, hb0⟩
  go_wp2_with fail
  go_ret
  exact ⟨rfl, Below.trans (by go_grown) (hb0.mono (by first | omega | (simp; done) | (simp; omega)))⟩

theorem walk_HarderPuzzle (v : Value) (xs : List Tri) (w : World) (hA : ArgT w v xs) (hW : ClueW w) :
    Calls Tryd.prog 7 #[.agg #[v]] w fun e w' => e = .returned (.bool true) ∧ Below w.heap.size w w' := by
  by_cases hn : xs.length ≤ 1048576
  · by_cases hP : puzzleP xs
    · cases ho : oneZ xs with
      | true =>
        have hl := (hardZ_sub xs.length 0 xs).length_le
        have hl6 := hP.1
        exact core_HarderPuzzle v xs _ true w hA hW hn (by omega) (fun W u B T hw h _ => sHard_yes u xs W h.1.src hw hP ho) (fun W u B T hw h _ => iHard_yes u xs W h.1.src hw hP ho)
      | false => exact core_HarderPuzzle v xs [] false w hA hW hn (by simp) (fun W u B T hw h _ => sHard_no2 u xs W h.1.src hw hP ho) (fun W u B T hw h _ => iHard_no2 u xs W h.1.src hw hP ho)
    · exact core_HarderPuzzle v xs [] false w hA hW hn (by simp) (fun W u B T hw h _ => sHard_no1 u xs W h.1.src hw hP) (fun W u B T hw h _ => iHard_no1 u xs W h.1.src hw hP)
  · exact long_HarderPuzzle v xs w hA hn
end Go.Proofs.YtbgcbokddldmkaaDoor
