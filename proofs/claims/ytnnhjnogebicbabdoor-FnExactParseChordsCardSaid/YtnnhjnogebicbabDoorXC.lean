/- Chords that texts tell: the program's reader. -/
import Derived.Test.YtnnhjnogebicbabDoorXB
import Derived.Test.YtnnhjnogebicbabDoorK4
namespace Go.Proofs.YtnnhjnogebicbabDoor
open Go.RowKit
set_option linter.unusedVariables false

set_option maxHeartbeats 4000000 in
set_option maxRecDepth 100000 in
theorem iParseChords_loop (s : ByteArray) (P : List ByteArray) (f : Nat → Int × Int) (g : Nat → Bool) (w : World) (hn : NumW w) (hbq : s.toList.isEmpty = false) (hP : P.length ≤ 1048577) (hsp : ∀ W, NumW W → Calls Tryd.prog 23 #[.string s, .string ⟨#[44]⟩] W fun e w' => e = .returned (.slice (some ⟨W.heap.size, 0, none⟩) P.length P.length) ∧ w' = W.alloc (.cells (P.map Value.string).toArray 9)) (hr : ∀ k, k < P.length → ∀ W, NumW W → Calls Tryd.prog 24 #[.string (P.getD k ⟨#[]⟩)] W fun e w' => e = .returned (.tuple #[.agg #[.int .i64 (f k).1, .int .i64 (f k).2], .bool (g k)]) ∧ Below W.heap.size W w') (m : Nat) (b : Bool) (R : List (Int × Int)) (hm : m ≤ P.length) (hok : ∀ k, k < m → g k = true) (hend : (m = P.length ∧ (b = true ∧ R = (List.range m).map f) ∧ goodC 60 ((List.range m).map f)) ∨ (m = P.length ∧ (b = false ∧ R = []) ∧ ¬ goodC 60 ((List.range m).map f)) ∨ (m < P.length ∧ (b = false ∧ R = []) ∧ g m = false)) :
    Calls Tryd.prog 9 #[.string s] w (Gives (PairsIn 44) w R b) := by
  have HS := Lib.hid hsp
  have HR := Lib.hid hr
  have HOK := Lib.hid hok
  have HE := Lib.hid hend
  have HN := Lib.hid hn
  clear hsp hr hok hend hn
  go_enter Tryd.func9, Tryd.ntmps9
  go_wp2_with (first | (go_at_call 23; (refine (HS.out _ HN.out).mono ?_); rintro e w1 ⟨rfl, hw1⟩; (have hv1 : ValAt 9 w1 w.heap.size (P.map Value.string) := by (rw [hw1]; exact heap_alloc_new w _)); (have hz1 : w1.heap.size = w.heap.size + 1 := by (rw [hw1]; simp)); (have hb1 : Below w.heap.size w w1 := by (rw [hw1]; go_grown)); clear hw1; have HN1 := Lib.hid (HN.out.later hb1); have HV := Lib.hid (fun (q : Nat) (hq : q < P.length) => show w1.cell? ⟨w.heap.size, q, none⟩ = some (.string (P.getD q ⟨#[]⟩)) from hv1.cell q _ (by simp [List.getElem?_map, List.getD, List.getElem?_eq_getElem hq])); clear hv1))
  go_loopw [4, 14] (fun u i wr => ∃ k : Nat, k ≤ m ∧ i = .int .i64 k ∧ Pairs wr w1.heap.size 44 u ((List.range k).map f) ∧ Below w1.heap.size w1 wr) (fun _ i _ => m - (intOf i).toNat)
  case atStart => exact ⟨0, by omega, rfl, World.ownsRow_nil _ _ _ _, Below.refl _ _⟩
  case round =>
    obtain ⟨k, hk, rfl, hI, hB⟩ := hrel
    have HI := Lib.hid hI
    have hz := hB.size
    have hlr : ((List.range k).map f).length = k := by simp
    clear hI
    by_cases hlt : k < m
    · have hlt2 : k < P.length := by omega
      have hcell := cellB hB (HV.out k hlt2)
      have HC := Lib.hid (HR.out k hlt2)
      have hgk := HOK.out k hlt
      have HSU := Lib.hid (show (List.range (k + 1)).map f = (List.range k).map f ++ [f k] by simp [List.range_succ])
      have HNr := Lib.hid (HN1.out.later hB)
      obtain ⟨t, ht⟩ : ∃ t, P.getD k ⟨#[]⟩ = t := ⟨_, rfl⟩
      obtain ⟨x, hx⟩ : ∃ x, (f k).1 = x := ⟨_, rfl⟩
      obtain ⟨y, hy⟩ : ∃ y, (f k).2 = y := ⟨_, rfl⟩
      have hfk : f k = (x, y) := by rw [← hx, ← hy]
      rw [ht] at hcell HC
      rw [hx, hy, hgk] at HC
      rw [hfk] at HSU
      clear ht hx hy hfk hgk
      go_wp2_with (first
        | (go_at_call 24; (refine (HC.out _ HNr.out).mono ?_); rintro e w2 ⟨rfl, hb2⟩; have hz2 := hb2.size; have HI2 := Lib.hid (HI.out.later hb2); have HI3 := Lib.hid (HI2.out.later (show Below w2.heap.size w2 (w2.alloc (.cells #[.int .i64 x, .int .i64 y] 44)) from by go_grown)); (have hB2 : Below w1.heap.size w1 w2 := hB.trans (hb2.mono hz)); clear hb2)
        | (at_builtin; go_loud (refine wpList_append_pair rfl _ _ 28 rfl (w1.heap.size) 44 Tryd.underlying28 info_chord _ _ rfl HI3.out x y (by rw [World.size_alloc]; rfl) (by rw [hlr]; omega) (by rw [World.size_alloc]; omega) ?_); intro v' w' hI' hg'; have HI' := Lib.hid hI'; have HG' := Lib.hid hg'; clear hI' hg'))
      go_roundw
      case rel => exact ⟨k + 1, by omega, by go_num, by rw [HSU.out]; exact HI'.out, HI3.out.below (hB2.trans ((show Below w2.heap.size w2 (w2.alloc (.cells #[.int .i64 x, .int .i64 y] 44)) from by go_grown).mono (by omega))) (by simp; omega) HG'.out⟩
      case measure => simp [intOf]; omega
    · obtain rfl : k = m := by omega
      rcases HE.out with ⟨rfl, ⟨rfl, rfl⟩, hg⟩ | ⟨rfl, ⟨rfl, rfl⟩, hg⟩ | ⟨hlt2, ⟨rfl, rfl⟩, hg⟩
      · have HA := Lib.hid (AreChords_yes 60 _ ((List.range P.length).map f) w1.heap.size wr.heap.size wr ⟨HI.out, fun j hj => (HI.out.own j hj).2⟩ hg)
        clear hg
        go_wp2_with (first | (go_at_call 25; (with_reducible refine (HA.out).mono ?_); rintro e w2 ⟨rfl, hb2⟩))
        go_ret2
        have h2 := HI.out.later hb2
        exact ⟨_, rfl, ⟨h2.mono (by omega), fun j hj => (h2.own j hj).2⟩, hb1.trans ((hB.trans (hb2.mono hz)).mono (by omega))⟩
      · have HA := Lib.hid (AreChords_no 60 _ ((List.range P.length).map f) w1.heap.size wr.heap.size wr ⟨HI.out, fun j hj => (HI.out.own j hj).2⟩ hg)
        clear hg
        go_wp2_with (first | (go_at_call 25; (with_reducible refine (HA.out).mono ?_); rintro e w2 ⟨rfl, hb2⟩))
        go_ret2
        exact ⟨_, rfl, ⟨World.ownsRow_nil _ _ _ _, fun j hj => by cases hj⟩, hb1.trans ((hB.trans (hb2.mono hz)).mono (by omega))⟩
      · have hcell := cellB hB (HV.out k hlt2)
        have HC := Lib.hid (HR.out k hlt2)
        have HNr := Lib.hid (HN1.out.later hB)
        obtain ⟨t, ht⟩ : ∃ t, P.getD k ⟨#[]⟩ = t := ⟨_, rfl⟩
        obtain ⟨x, hx⟩ : ∃ x, (f k).1 = x := ⟨_, rfl⟩
        obtain ⟨y, hy⟩ : ∃ y, (f k).2 = y := ⟨_, rfl⟩
        rw [ht] at hcell HC
        rw [hx, hy, hg] at HC
        clear ht hx hy hg
        go_wp2_with (first
          | (go_at_call 24; (refine (HC.out _ HNr.out).mono ?_); rintro e w2 ⟨rfl, hb2⟩; (have hB2 : Below w1.heap.size w1 w2 := hB.trans (hb2.mono hz)); have hz2 := hb2.size; clear hb2))
        go_ret2
        exact ⟨_, rfl, ⟨World.ownsRow_nil _ _ _ _, fun j hj => by cases hj⟩, hb1.trans ((hB2.trans ((show Below w2.heap.size w2 (w2.alloc (.cells #[.int .i64 x, .int .i64 y] 44)) from by go_grown).mono (by omega))).mono (by omega))⟩

theorem iParseChords_nil (w : World) : Calls Tryd.prog 9 #[.string ⟨#[]⟩] w (Gives (PairsIn 44) w [] true) := by
  go_enter Tryd.func9, Tryd.ntmps9
  go_wp2
  go_ret2
  exact ⟨_, rfl, ⟨World.ownsRow_nil _ _ _ _, fun j hj => by cases hj⟩, by go_grown⟩

end Go.Proofs.YtnnhjnogebicbabDoor
