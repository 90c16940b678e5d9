/- All turns of a loop, by the program. -/
import Derived.Test.YtpcebcgmbngabaaJX
namespace Go.Proofs.Ytpcebcgmbngabaa
open Go.RowKit
set_option linter.unusedVariables false

/-- The strings L fill block g. -/
def StrB (w : World) (g : Nat) (L : List ByteArray) : Prop := w.heap[g]? = some (.cells (L.map Value.string).toArray 9 (0, 0))

theorem StrB.cell {w : World} {g : Nat} {L : List ByteArray} (h : StrB w g L) (q : Nat) (hq : q < L.length) : w.cell? ⟨g, q, none⟩ = some (.string (L.getD q ⟨#[]⟩)) :=
  (cell_of_row w g q _ _ (0, 0) h).trans (by rw [List.getElem?_toArray, List.getElem?_map, List.getElem?_eq_getElem hq]; simp [List.getD, hq])

theorem StrB.frozen {w : World} {g : Nat} {L : List ByteArray} (h : StrB w g L) (q : Nat) : w.frozen? ⟨g, q, none⟩ = false := frozen_of_row w g q _ _ h

theorem StrB.lt {w : World} {g : Nat} {L : List ByteArray} (h : StrB w g L) : g < w.heap.size := by
  unfold StrB at h
  exact (Array.getElem?_eq_some_iff.1 h).1

theorem StrB.keep {w w' : World} {g : Nat} {L : List ByteArray} (h : StrB w g L) (hb : Below w.heap.size w w') : StrB w' g L := (hb.block g h.lt).trans h

theorem StrB.stored {w : World} {g : Nat} {L : List ByteArray} (h : StrB w g L) (j : Nat) (x : ByteArray) : StrB (w.setCell ⟨g, j, none⟩ (.string x)) g (L.set j x) := by
  unfold StrB
  rw [heap_setCell_same w g j _ _ _ h]
  simp [List.map_set]

theorem info_strJ : (Try.prog.info? 9).map (fun i => (i.zero, i.size, i.bytes)) = some (some (.string ⟨#[]⟩), 1, 16) := by kernel_rfl

/-- n new strings. -/
theorem make_strs (n : Nat) (hn : n ≤ 1000000) :
    ∀ W : World, (Instr.makeSlice 73 (.int .i64 (n : Int)) (.int .i64 (n : Int))).run Try.prog W = .ok (.slice (some ⟨W.heap.size, 0, none⟩) n n) (W.alloc (.cells ((List.replicate n (⟨#[]⟩ : ByteArray)).map Value.string).toArray 9)) := by
  intro W
  obtain ⟨i, hi, hz0, hz1, hz2⟩ := info_parts info_strJ
  have := run_make (P := Try.prog) W 73 9 i (.string ⟨#[]⟩) Try.underlying73 hi hz0 .i64 .i64 (n : Int) (n : Int) (by omega) (Int.le_refl _) (by rw [hz2]; omega) (by omega)
  rw [this, hz1]
  congr 3
  · congr 1
    apply Array.ext_getElem?
    intro j
    by_cases h : j < n
    · simp [madeCells, h, Nat.mod_one, Value.cells]
    · simp [madeCells, h, Value.cells]

/-- All turns of a loop; the empty one has one. -/
def turnsB (L : List UInt8) : List ByteArray := (List.range (max L.length 1)).map fun k => txL (anewL (rotL L k))

theorem turnsB_length (L : List UInt8) : (turnsB L).length = max L.length 1 := by simp [turnsB]

theorem turnsB_get (L : List UInt8) (k : Nat) (h : k < max L.length 1) : (turnsB L).getD k ⟨#[]⟩ = txL (anewL (rotL L k)) := by
  simp [turnsB, List.getD, h]

def partS (L : List UInt8) (k : Nat) : List ByteArray := (turnsB L).take k ++ List.replicate (max L.length 1 - k) ⟨#[]⟩

theorem partS_length (L : List UInt8) (k : Nat) (h : k ≤ max L.length 1) : (partS L k).length = max L.length 1 := by
  unfold partS
  rw [List.length_append, List.length_take, turnsB_length, List.length_replicate]
  omega

theorem partS_set (L : List UInt8) (k : Nat) (h : k < max L.length 1) : (partS L k).set k (txL (anewL (rotL L k))) = partS L (k + 1) := by
  unfold partS
  have hl := turnsB_length L
  rw [List.set_append_right _ _ (by rw [List.length_take, hl]; omega), List.length_take, hl, show k - min k (max L.length 1) = 0 by omega, show max L.length 1 - k = (max L.length 1 - (k + 1)) + 1 by omega, List.replicate_succ, List.set_cons_zero,
    List.take_add_one, List.getElem?_eq_getElem (by omega)]
  have := turnsB_get L k h
  rw [List.getD, List.getElem?_eq_getElem (by omega)] at this
  simp only [Option.getD_some] at this
  rw [this]
  simp

set_option maxHeartbeats 1000000 in
set_option maxRecDepth 100000 in
theorem turnsOf_any (t : ByteArray) (w : World) (ht : t.size ≤ 16) :
    Calls Try.prog 79 #[.string t] w fun e w' => ∃ g m, e = .returned (.slice (some ⟨g, 0, none⟩) m m) ∧ m = max t.size 1 ∧ StrB w' g (turnsB t.data.toList) ∧ w.heap.size ≤ g ∧ Below w.heap.size w w' := by
  have hlen := tx_len t
  have HPS := Lib.hid (fun k (h : k < max t.size 1) => partS_set t.data.toList k (by rw [hlen]; exact h))
  have HPL := Lib.hid (fun k (h : k ≤ max t.size 1) => show (partS t.data.toList k).length = max t.size 1 by rw [partS_length _ _ (by rw [hlen]; exact h), hlen])
  have h0 : partS t.data.toList 0 = List.replicate (max t.size 1) ⟨#[]⟩ := by unfold partS; rw [hlen]; simp
  have hE : partS t.data.toList (max t.size 1) = turnsB t.data.toList := by
    unfold partS
    rw [List.take_of_length_le (by rw [turnsB_length, hlen]; exact Nat.le_refl _), hlen, Nat.sub_self]
    simp
  have HSH := Lib.hid (fun k (h : k < max t.size 1) W => shifted_any t k W (by omega) (by omega))
  have HAN := Lib.hid (fun k W => show Calls Try.prog 58 #[.string (txL (rotL t.data.toList k))] W fun e w' => e = .returned (.string (txL (anewL (rotL t.data.toList k)))) ∧ Below W.heap.size W w' from
    namedAnew_any (txL (rotL t.data.toList k)) W (by rw [txL_size, rotL_length, hlen]; exact ht))
  obtain ⟨m, hm⟩ : ∃ m, max t.size 1 = m := ⟨_, rfl⟩
  have hmx : max (t.size : Int) 1 = (m : Int) := by omega
  have hm17 : m ≤ 17 := by omega
  rw [hm] at HPS HPL h0 hE HSH
  have hmk := make_strs m (by omega)
  have HE := Lib.hid hE
  have HM := Lib.hid hm
  have HS0 := Lib.hid (show StrB (w.alloc (.cells (Array.replicate m (Value.string ⟨#[]⟩)) 9)) w.heap.size (partS t.data.toList 0) by unfold StrB; rw [h0, List.map_replicate, List.toArray_replicate]; exact heap_alloc_new w _)
  clear h0 hE hm hlen
  go_enter Try.func79, Try.ntmps79
  go_wp2
  clear hmk
  go_loopw [11] (fun i wr => ∃ k : Nat, k ≤ m ∧ i = .int .i64 k ∧ StrB wr w.heap.size (partS t.data.toList k) ∧ Below w.heap.size w wr) (fun i _ => m - (intOf i).toNat)
  case atStart => exact ⟨0, by omega, rfl, HS0.out, by go_grown⟩
  case round =>
    obtain ⟨k, hk, rfl, hS, hB⟩ := hrel
    have HB := Lib.hid hB
    have HS := Lib.hid hS
    have hz := hB.size
    clear hB
    by_cases hlt : k < m
    · have k0 : 0 ≤ (k : Int) := by omega
      have k1 : (k : Int) < (m : Int) := by omega
      have hc := hS.cell k (by rw [HPL.out k hk]; exact hlt)
      have hf := hS.frozen k
      have hlt2 := hS.lt
      clear hS
      go_wp2_with (first
        | (go_at_call 59; (with_reducible refine (HSH.out k hlt _).mono ?_); rintro e w2 ⟨rfl, hb2⟩; (have hz2 := hb2.size); (have HB2 := Lib.hid (HB.out.trans (hb2.mono hz))); (have HS2 := Lib.hid (HS.out.keep hb2)))
        | (go_at_call 58; (with_reducible refine (HAN.out k _).mono ?_); rintro e w3 ⟨rfl, hb3⟩; (have hz3 := hb3.size); (have HB3 := Lib.hid (HB2.out.trans (hb3.mono (by omega)))); (have hS3 := HS2.out.keep hb3); (have hc3 := hS3.cell k (by rw [HPL.out k hk]; exact hlt)); (have hf3 := hS3.frozen k); (have HS3 := Lib.hid hS3); clear hS3))
      go_roundw
      case rel => exact ⟨k + 1, by omega, by go_num, by rw [← HPS.out k hlt]; exact HS3.out.stored k _, HB3.out.setCell (Nat.le_refl _) _⟩
      case measure => simp [intOf]; omega
    · obtain rfl : k = m := by omega
      go_wp2
      go_ret
      refine ⟨w.heap.size, k, rfl, HM.out.symm, ?_, Nat.le_refl _, HB.out⟩
      rw [← HE.out]
      exact HS.out

end Go.Proofs.Ytpcebcgmbngabaa
