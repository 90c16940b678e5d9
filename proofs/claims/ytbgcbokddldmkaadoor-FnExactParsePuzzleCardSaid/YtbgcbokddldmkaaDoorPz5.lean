/- Puzzles that texts tell: the program's reader. -/
import Derived.Test.YtbgcbokddldmkaaDoorPz4
import Derived.Test.YtbgcbokddldmkaaDoorX7
import Derived.Test.YtbgcbokddldmkaaDoorXZ
namespace Go.Proofs.YtbgcbokddldmkaaDoor
open Go.RowKit
set_option linter.unusedVariables false
set_option maxHeartbeats 4000000 in
set_option maxRecDepth 100000 in
theorem iParsePuzzle_loop (s : ByteArray) (P : List ByteArray) (f : Nat → Tri) (g : Nat → Bool) (w : World) (hn : NumW w) (hW : ClueW w) (hbq : s.toList.isEmpty = false) (hP : P.length ≤ 1048577) (hsp : ∀ W, NumW W → Calls Tryd.prog 76 #[.string s, .string ⟨#[44]⟩] W fun e w' => e = .returned (.slice (some ⟨W.heap.size, 0, none⟩) P.length P.length) ∧ w' = W.alloc (.cells (P.map Value.string).toArray 9))
    (hr : ∀ k, k < P.length → ∀ W, NumW W → Calls Tryd.prog 77 #[.string (P.getD k ⟨#[]⟩)] W fun e w' => e = .returned (.tuple #[.agg #[.int .i64 (f k).1, .int .i64 (f k).2.1, .int .i64 (f k).2.2], .bool (g k)]) ∧ Below W.heap.size W w')
    (m : Nat) (b : Bool) (R : List Tri) (hm : m ≤ P.length) (hok : ∀ k, k < m → g k = true) (hend : (m = P.length ∧ (b = true ∧ R = (List.range m).map f) ∧ puzzleP ((List.range m).map f)) ∨ (m = P.length ∧ (b = false ∧ R = []) ∧ ¬ puzzleP ((List.range m).map f)) ∨ (m < P.length ∧ (b = false ∧ R = []) ∧ g m = false)) :
    Calls Tryd.prog 36 #[.string s] w (GivesZ w R b) := by
  have HS := Lib.hid hsp
  have HR := Lib.hid hr
  have HOK := Lib.hid hok
  have HE := Lib.hid hend
  have HN := Lib.hid hn
  have HW := Lib.hid hW
  clear hsp hr hok hend hn hW
  go_enter Tryd.func36, Tryd.ntmps36
  go_wp2_with (first | (go_at_call 76; (refine (HS.out _ (HN.out.later (by go_grown))).mono ?_); rintro e w1 ⟨rfl, hw1⟩; (have hv1 : w1.heap[w.heap.size + 1 + 1]? = some (.cells (P.map Value.string).toArray 9 (0, 0)) := by (rw [hw1]; have h9 := heap_alloc_new ((w.alloc (.cells #[.slice none 0 0] 31)).alloc (.cells #[.slice none 0 0] 31)) (.cells (P.map Value.string).toArray 9); simpa using h9)); (have hz1 : w1.heap.size = w.heap.size + 3 := by (rw [hw1]; simp)); (have hb1 : Below w.heap.size w w1 := by (rw [hw1]; go_grown)); (have c0 : w1.cell? ⟨w.heap.size, 0, none⟩ = some (.slice none 0 0) := by (rw [hw1]; go_simp)); (have c1 : w1.cell? ⟨w.heap.size + 1, 0, none⟩ = some (.slice none 0 0) := by (rw [hw1]; go_simp)); (have f0 : w1.frozen? ⟨w.heap.size, 0, none⟩ = false := by (rw [hw1]; go_simp)); (have f1 : w1.frozen? ⟨w.heap.size + 1, 0, none⟩ = false := by (rw [hw1]; go_simp)); clear hw1; have HN1 := Lib.hid (HN.out.later hb1); have HV := Lib.hid (fun (q : Nat) (hq : q < P.length) => show w1.cell? ⟨w.heap.size + 1 + 1, q, none⟩ = some (.string (P.getD q ⟨#[]⟩)) from (cell_of_row w1 (w.heap.size + 1 + 1) q _ _ (0, 0) hv1).trans (by simp [List.getElem?_map, List.getD, List.getElem?_eq_getElem hq])); clear hv1))
  go_loopw [15] (fun i wr => ∃ k : Nat, k ≤ m ∧ i = .int .i64 k ∧ Only (w.heap.size + 1) ((w.heap.size + 1) + 1) w1 wr ∧ wr.frozen? ⟨w.heap.size + 1, 0, none⟩ = false ∧ ∃ va vn vc, wr.cell? ⟨w.heap.size + 1, 0, none⟩ = some (.slice va vn vc) ∧ Trips wr w1.heap.size 44 (.slice va vn vc) ((List.range k).map f)) (fun i _ => m - (intOf i).toNat)
  case atStart => exact ⟨0, by omega, rfl, onlyRefl _ _, f1, none, 0, 0, c1, World.ownsRow_nil _ _ _ _⟩
  case round =>
    obtain ⟨k, hk, rfl, hO, r1, va, vn, vc, d1, hI⟩ := hrel
    have HI := Lib.hid hI
    have HO := Lib.hid hO
    have hz := hO.size
    have d0 := onlyCell hO c0 (by omega)
    have r0 := onlyFrozen hO (by omega) f0 (by omega)
    have hBw : Below w.heap.size w wr := hb1.trans (hO.below (by omega) (by omega))
    have hlr : (((List.range k).map f)).length = k := by simp
    have HNr := Lib.hid (HN.out.later hBw)
    have hon : ∀ j, (Value.slice va vn vc).ownBlock = some j → w1.heap.size ≤ j := fun j hj => (hI.own j hj).1
    clear hI hO
    by_cases hlt : k < m
    · have hlt2 : k < P.length := by omega
      have hcell := onlyCell HO.out (HV.out k hlt2) (by omega)
      have HCc := Lib.hid (HR.out k hlt2)
      have hgk := HOK.out k hlt
      have HSU := Lib.hid (show (List.range (k + 1)).map f = ((List.range k).map f) ++ [f k] by simp [List.range_succ])
      obtain ⟨t, ht⟩ : ∃ t, P.getD k ⟨#[]⟩ = t := ⟨_, rfl⟩
      obtain ⟨x, y, z, hxyz⟩ : ∃ x y z, f k = (x, y, z) := ⟨_, _, _, rfl⟩
      rw [ht] at hcell HCc
      rw [hxyz, hgk] at HCc
      rw [hxyz] at HSU
      simp only at HCc
      clear ht hxyz hgk
      go_wp2_with (first | (go_at_call 77; (refine (HCc.out _ HNr.out).mono ?_); rintro e w2 ⟨rfl, hb2⟩; go_loud ((have hz2 := hb2.size); (have e0 := cellB hb2 d0); (have e1 := cellB hb2 d1); (have g0 := frozenB hb2 (by omega) r0); (have g1 := frozenB hb2 (by omega) r1); (have q1 := cellB (show Below w2.heap.size w2 (w2.alloc (.cells #[.int .i64 x, .int .i64 y, .int .i64 z] 44)) from (Below.refl _ _).alloc (Nat.le_refl _) _) e1); (have hWA : Below w2.heap.size w2 ((w2.alloc (.cells #[.int .i64 x, .int .i64 y, .int .i64 z] 44)).alloc (.cells #[.int .i64 x, .int .i64 y, .int .i64 z] 44)) := ((Below.refl _ _).alloc (Nat.le_refl _) _).alloc (by simp) _); (have HI2 := Lib.hid ((HI.out.later hb2).later hWA)); (have HSR := Lib.hid (show SrcT ((w2.alloc (.cells #[.int .i64 x, .int .i64 y, .int .i64 z] 44)).alloc (.cells #[.int .i64 x, .int .i64 y, .int .i64 z] 44)) (.slice (some ⟨w2.heap.size + 1, 0, none⟩) 1 1) [(x, y, z)] from by (have h9 := (Trips.boxed (w2.alloc (.cells #[.int .i64 x, .int .i64 y, .int .i64 z] 44)) 0 44 [(x, y, z)] (Nat.zero_le _) (by simp)).src; rw [World.size_alloc] at h9; exact h9))); (have HWB := Lib.hid ((hb2.mono (show w1.heap.size ≤ wr.heap.size by omega)).trans (hWA.mono (by omega)))); (have a1 := cellB hWA e1); (have k1 := frozenB hWA (by omega) g1); clear hWA)) | (at_builtin; go_loud ((refine wpList_append_trips rfl _ _ 29 rfl w1.heap.size 44 Tryd.underlying29 info_clue _ _ ((List.range k).map f) [(x, y, z)] rfl rfl HI2.out HSR.out (by rw [hlr]; simp; omega) (by simp; omega) ?_); intro v3 w3 hI3 hg3 _; (have hB3 : Below w1.heap.size wr w3 := Trips.below HI2.out HWB.out (by simp; omega) hg3); (have hz3 := hB3.size); (have b1' := (hB3.cell (p := ⟨w.heap.size + 1, 0, none⟩) (by show w.heap.size + 1 < w1.heap.size; omega)).trans d1); (have r1' := (hB3.frozen (p := ⟨w.heap.size + 1, 0, none⟩) (by show w.heap.size + 1 < w1.heap.size; omega)).trans r1); (obtain ⟨va3, vn3, vc3, hf3⟩ := own_formT hI3); subst hf3; (have HI3 := Lib.hid hI3); (have HB3 := Lib.hid hB3); clear hI3 hg3 hB3)))
      go_roundw
      case rel => exact ⟨k + 1, by omega, by go_num, onlySet (onlyLater HO.out HB3.out) _ _, by go_simp, va3, vn3, vc3, by go_simp, by rw [HSU.out]; exact tripsSet HI3.out _ _ (by show w.heap.size + 1 < w1.heap.size; omega)⟩
      case measure => simp [intOf]; omega
    · obtain rfl : k = m := by omega
      rcases HE.out with ⟨rfl, ⟨rfl, rfl⟩, hg⟩ | ⟨rfl, ⟨rfl, rfl⟩, hg⟩ | ⟨hlt2, ⟨rfl, rfl⟩, hg⟩
      · have HPd := Lib.hid (show decide (puzzleP ((List.range P.length).map f)) = true from decide_eq_true hg)
        have HWr := Lib.hid (HW.out.later hBw)
        clear hg
        go_wp2_with (first | (go_at_call 62; (refine (iIsPuzzle_any _ ((List.range P.length).map f) true _ HI.out.src HPd.out HWr.out).mono ?_); rintro e w2 ⟨rfl, hb2⟩; (have e0 := cellB hb2 d0); (have e1 := cellB hb2 d1); (have g0 := frozenB hb2 (by omega) r0); (have hz2 := hb2.size)))
        refine bodyPost_ret (v := .tuple #[.agg #[.slice va vn vc], .bool true]) (by simp [results, Tryd.results36, go_sem, e0]) rfl ⟨_, rfl, ?_, ?_⟩
        · exact (((HI.out.later hb2).inn.setC ⟨w.heap.size, 0, none⟩ _ (by show w.heap.size < w1.heap.size; omega)).wider (by omega) (by simp))
        · exact (hBw.trans (hb2.mono (by omega))).setC _ _ (Nat.le_refl _)
      · have HPd := Lib.hid (show decide (puzzleP ((List.range P.length).map f)) = false from decide_eq_false hg)
        have HWr := Lib.hid (HW.out.later hBw)
        clear hg
        go_wp2_with (first | (go_at_call 62; (refine (iIsPuzzle_any _ ((List.range P.length).map f) false _ HI.out.src HPd.out HWr.out).mono ?_); rintro e w2 ⟨rfl, hb2⟩; (have e0 := cellB hb2 d0); (have e1 := cellB hb2 d1); (have g0 := frozenB hb2 (by omega) r0); (have hz2 := hb2.size)))
        refine bodyPost_ret (v := .tuple #[.agg #[.slice none 0 0], .bool false]) (by simp [results, Tryd.results36, go_sem, e0]) rfl ⟨_, rfl, ?_, ?_⟩
        · exact TripsIn.nil _ _ _ _
        · exact (hBw.trans (hb2.mono (by omega))).setC _ _ (Nat.le_refl _)
      · have hcell := onlyCell HO.out (HV.out k hlt2) (by omega)
        have HCc := Lib.hid (HR.out k hlt2)
        obtain ⟨t, ht⟩ : ∃ t, P.getD k ⟨#[]⟩ = t := ⟨_, rfl⟩
        obtain ⟨x, y, z, hxyz⟩ : ∃ x y z, f k = (x, y, z) := ⟨_, _, _, rfl⟩
        rw [ht] at hcell HCc
        rw [hxyz, hg] at HCc
        simp only at HCc
        clear ht hxyz hg
        go_wp2_with (first | (go_at_call 77; (refine (HCc.out _ HNr.out).mono ?_); rintro e w2 ⟨rfl, hb2⟩; go_loud ((have hz2 := hb2.size); (have e0 := cellB hb2 d0); (have e1 := cellB hb2 d1); (have g0 := frozenB hb2 (by omega) r0); (have g1 := frozenB hb2 (by omega) r1); (have q0 := cellB (show Below w2.heap.size w2 (w2.alloc (.cells #[.int .i64 x, .int .i64 y, .int .i64 z] 44)) from (Below.refl _ _).alloc (Nat.le_refl _) _) e0); (have q3 := frozenB (show Below w2.heap.size w2 (w2.alloc (.cells #[.int .i64 x, .int .i64 y, .int .i64 z] 44)) from (Below.refl _ _).alloc (Nat.le_refl _) _) (by omega) g0))))
        refine bodyPost_ret (v := .tuple #[.agg #[.slice none 0 0], .bool false]) (by simp [results, Tryd.results36, go_sem, q0]) rfl ⟨_, rfl, TripsIn.nil _ _ _ _, ?_⟩
        first
          | exact ((hBw.trans (hb2.mono (by omega))).alloc (by omega) _).setC _ _ (Nat.le_refl _)
          | exact ((hBw.trans (hb2.mono (by omega))).setC _ _ (Nat.le_refl _)).alloc (by simp; omega) _

theorem iParsePuzzle_nil (w : World) : Calls Tryd.prog 36 #[.string ⟨#[]⟩] w (GivesZ w [] true) := by
  go_enter Tryd.func36, Tryd.ntmps36
  go_wp2
  refine bodyPost_ret (v := .tuple #[.agg #[.slice none 0 0], .bool true]) (by simp [results, Tryd.results36, go_sem]) rfl ⟨_, rfl, TripsIn.nil _ _ _ _, by go_grown⟩

end Go.Proofs.YtbgcbokddldmkaaDoor
