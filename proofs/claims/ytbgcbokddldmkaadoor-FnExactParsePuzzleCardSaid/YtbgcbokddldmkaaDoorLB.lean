/- Pairs of numbers that texts tell: the program's reader, its parts of a text. -/
import Derived.Test.YtbgcbokddldmkaaDoorLA
import Derived.Test.YtbgcbokddldmkaaDoorNP
import Derived.Test.YtbgcbokddldmkaaDoorSq
import Derived.Test.YtbgcbokddldmkaaDoorBA
namespace Go.Proofs.YtbgcbokddldmkaaDoor
open Go.RowKit
set_option linter.unusedVariables false

theorem info_strX : (Tryd.prog.info? 9).map (fun i => (i.zero, i.size, i.bytes)) = some (some (.string ByteArray.empty), 1, 16) := by kernel_rfl
theorem info_two : (Tryd.prog.info? 108).map (fun i => (i.zero, i.size, i.bytes)) = some (some (.agg #[.int .i64 0, .int .i64 0]), 2, 16) := by kernel_rfl

/-- strings.Split at a comma. -/
theorem split_any (s : ByteArray) (P : List ByteArray) (w : World) (hs : s.size ≤ 1048576) (hn : NumW w) (hP : Lib.splitB ⟨#[44]⟩ 0 (Lib.countB s ⟨#[44]⟩) s = P) :
    Calls Tryd.prog 76 #[.string s, .string ⟨#[44]⟩] w fun e w' => e = .returned (.slice (some ⟨w.heap.size, 0, none⟩) P.length P.length) ∧ w' = w.alloc (.cells (P.map Value.string).toArray 9) := by
  obtain ⟨m, hm⟩ := hn.most
  have h := Any.strings_Split Tryd.splitL info_strX s ⟨#[44]⟩ m w (by omega) hm (Nat.le_refl 1)
  have hl := Lib.splitB_all ⟨#[44]⟩ (Nat.le_refl 1) 0 _ s rfl
  rw [hP] at h hl
  rw [hl]
  exact h

set_option maxHeartbeats 4000000 in
set_option maxRecDepth 100000 in
theorem numberPairs_loop (s sg : ByteArray) (P : List ByteArray) (f : Nat → Int × Int) (g : Nat → Bool) (w : World) (hn : NumW w) (hP : P.length ≤ 1048577) (hsp : ∀ W, NumW W → Calls Tryd.prog 76 #[.string s, .string ⟨#[44]⟩] W fun e w' => e = .returned (.slice (some ⟨W.heap.size, 0, none⟩) P.length P.length) ∧ w' = W.alloc (.cells (P.map Value.string).toArray 9)) (hr : ∀ k, k < P.length → ∀ W, NumW W → Calls Tryd.prog 81 #[.string (P.getD k ⟨#[]⟩), .string sg] W fun e w' => e = .returned (.tuple #[.int .i64 (f k).1, .int .i64 (f k).2, .bool (g k)]) ∧ Below W.heap.size W w') (m : Nat) (b : Bool) (R : List (Int × Int)) (hm : m ≤ P.length) (hok : ∀ k, k < m → g k = true) (hend : (m = P.length ∧ (b = true ∧ R = (List.range m).map f)) ∨ (m < P.length ∧ (b = false ∧ R = []) ∧ g m = false)) :
    Calls Tryd.prog 87 #[.string s, .string sg] w (Gives (PairsIn 108) w R b) := by
  have HS := Lib.hid hsp
  have HR := Lib.hid hr
  have HOK := Lib.hid hok
  have HE := Lib.hid hend
  have HN := Lib.hid hn
  clear hsp hr hok hend hn
  go_enter Tryd.func87, Tryd.ntmps87
  go_wp2_with (first | (go_at_call 76; (refine (HS.out _ HN.out).mono ?_); rintro e w1 ⟨rfl, hw1⟩; (have hv1 : w1.heap[w.heap.size]? = some (.cells (P.map Value.string).toArray 9 (0, 0)) := by (rw [hw1]; exact heap_alloc_new w _)); (have hz1 : w1.heap.size = w.heap.size + 1 := by (rw [hw1]; simp)); (have hb1 : Below w.heap.size w w1 := by (rw [hw1]; go_grown)); clear hw1; have HN1 := Lib.hid (HN.out.later hb1); have HV := Lib.hid (fun (q : Nat) (hq : q < P.length) => show w1.cell? ⟨w.heap.size, q, none⟩ = some (.string (P.getD q ⟨#[]⟩)) from (cell_of_row w1 w.heap.size q _ _ (0, 0) hv1).trans (by simp [List.getElem?_map, List.getD, List.getElem?_eq_getElem hq])); clear hv1))
  go_loopw [6, 15] (fun u i wr => ∃ k : Nat, k ≤ m ∧ i = .int .i64 k ∧ Pairs wr w1.heap.size 108 u ((List.range k).map f) ∧ Below w1.heap.size w1 wr) (fun _ i _ => m - (intOf i).toNat)
  case atStart => exact ⟨0, by omega, rfl, World.ownsRow_nil _ _ _ _, Below.refl _ _⟩
  case round =>
    obtain ⟨k, hk, rfl, hI, hB⟩ := hrel
    have HI := Lib.hid hI
    have hz := hB.size
    have hlr : ((List.range k).map f).length = k := by simp
    clear hI
    by_cases hlt : k < m
    · have hlt2 : k < P.length := by omega
      have hcell := cellB hB (HV.out k hlt2)
      have HC := Lib.hid (HR.out k hlt2)
      have hgk := HOK.out k hlt
      have HSU := Lib.hid (show (List.range (k + 1)).map f = (List.range k).map f ++ [f k] by simp [List.range_succ])
      have HNr := Lib.hid (HN1.out.later hB)
      obtain ⟨t, ht⟩ : ∃ t, P.getD k ⟨#[]⟩ = t := ⟨_, rfl⟩
      obtain ⟨x, hx⟩ : ∃ x, (f k).1 = x := ⟨_, rfl⟩
      obtain ⟨y, hy⟩ : ∃ y, (f k).2 = y := ⟨_, rfl⟩
      have hfk : f k = (x, y) := by rw [← hx, ← hy]
      rw [ht] at hcell HC
      rw [hx, hy, hgk] at HC
      rw [hfk] at HSU
      clear ht hx hy hfk hgk
      go_wp2_with (first
        | (go_at_call 81; (refine (HC.out _ HNr.out).mono ?_); rintro e w2 ⟨rfl, hb2⟩; have hz2 := hb2.size; have HI2 := Lib.hid (HI.out.later hb2); (have hB2 : Below w1.heap.size w1 w2 := hB.trans (hb2.mono hz)); clear hb2)
        | (at_builtin; go_loud (refine wpList_append_pair rfl _ _ 105 rfl (w1.heap.size) 108 Tryd.underlying105 info_two _ _ rfl HI2.out x y rfl (by rw [hlr]; omega) (by omega) ?_); intro v' w' hI' hg'; have HI' := Lib.hid hI'; have HG' := Lib.hid hg'; clear hI' hg'))
      go_roundw
      case rel => exact ⟨k + 1, by omega, by go_num, by rw [HSU.out]; exact HI'.out, HI2.out.below hB2 (by omega) HG'.out⟩
      case measure => simp [intOf]; omega
    · obtain rfl : k = m := by omega
      rcases HE.out with ⟨rfl, ⟨rfl, rfl⟩⟩ | ⟨hlt2, ⟨rfl, rfl⟩, hg⟩
      · go_wp2
        go_ret2
        exact ⟨_, rfl, ⟨HI.out.mono (by omega), fun j hj => (HI.out.own j hj).2⟩, hb1.trans (hB.mono (by omega))⟩
      · have hcell := cellB hB (HV.out k hlt2)
        have HC := Lib.hid (HR.out k hlt2)
        have HNr := Lib.hid (HN1.out.later hB)
        obtain ⟨t, ht⟩ : ∃ t, P.getD k ⟨#[]⟩ = t := ⟨_, rfl⟩
        obtain ⟨x, hx⟩ : ∃ x, (f k).1 = x := ⟨_, rfl⟩
        obtain ⟨y, hy⟩ : ∃ y, (f k).2 = y := ⟨_, rfl⟩
        rw [ht] at hcell HC
        rw [hx, hy, hg] at HC
        clear ht hx hy hg
        go_wp2_with (first
          | (go_at_call 81; (refine (HC.out _ HNr.out).mono ?_); rintro e w2 ⟨rfl, hb2⟩; (have hB2 : Below w1.heap.size w1 w2 := hB.trans (hb2.mono hz)); have hz2 := hb2.size; clear hb2))
        go_ret2
        exact ⟨_, rfl, ⟨World.ownsRow_nil _ _ _ _, fun j hj => by cases hj⟩, hb1.trans (hB2.mono (by omega))⟩

end Go.Proofs.YtbgcbokddldmkaaDoor
