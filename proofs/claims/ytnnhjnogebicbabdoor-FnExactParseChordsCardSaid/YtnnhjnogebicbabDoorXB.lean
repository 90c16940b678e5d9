/- Chords that texts tell: the program's reader of one chord, its parts of a text. -/
import Derived.Test.YtnnhjnogebicbabDoorXA
import Derived.Test.YtnnhjnogebicbabDoorPN
import Derived.Test.YtnnhjnogebicbabDoorPS
import Derived.Test.YtnnhjnogebicbabDoorSq
import Derived.Test.YtnnhjnogebicbabDoorCT
namespace Go.Proofs.YtnnhjnogebicbabDoor
open Go.RowKit
set_option linter.unusedVariables false

/-- The chord that a text tells. -/
def readC (l : List UInt8) : Option (Nat × Nat) :=
  if (Lib.cut l [45]).2.2 then
    match plainT (Lib.cut l [45]).1, plainT (Lib.cut l [45]).2.1 with
    | some a, some b => some (a, b)
    | _, _ => none
  else none

set_option maxHeartbeats 4000000 in
theorem parseChord_bad (t a b : ByteArray) (o op oq : Bool) (p q : Int) (w : World) (hC : ∀ W, NumW W → Calls Tryd.prog 16 #[.string t, .string ⟨#[45]⟩] W fun e w' => e = .returned (.tuple #[.string a, .string b, .bool o]) ∧ ∃ n, w' = W.drewN n) (hn : NumW w) (hl : ∀ W, NumW W → Calls Tryd.prog 17 #[.string a] W fun e w' => e = .returned (.tuple #[.int .i64 p, .bool op]) ∧ Below W.heap.size W w') (hr : ∀ W, NumW W → Calls Tryd.prog 17 #[.string b] W fun e w' => e = .returned (.tuple #[.int .i64 q, .bool oq]) ∧ Below W.heap.size W w') (h : (o && op && oq) = false) :
    Calls Tryd.prog 24 #[.string t] w fun e w' => e = .returned (.tuple #[.agg #[.int .i64 0, .int .i64 0], .bool false]) ∧ Below w.heap.size w w' := by
  have HC := Lib.hid hC
  have HL := Lib.hid hl
  have HR := Lib.hid hr
  have HN := Lib.hid hn
  clear hC hn hl hr
  cases o <;> cases op <;> cases oq <;> first | (simp at h; done) | clear h
  all_goals
    go_enter Tryd.func24, Tryd.ntmps24
    go_wp2_with (first | (go_at_call 16; (refine (HC.out _ (HN.out.later (by go_grown))).mono ?_); rintro e w1 ⟨rfl, nn, hw1⟩; (have hb : Below (w.alloc (.cells #[.int .i64 0, .int .i64 0] 44)).heap.size (w.alloc (.cells #[.int .i64 0, .int .i64 0] 44)) w1 := by (rw [hw1]; exact bdn (Below.refl _ _) _)); clear hw1; (have c0 : w1.cell? ⟨w.heap.size, 0, none⟩ = some (.int .i64 0) := cellB hb (by go_simp)); (have c1 : w1.cell? ⟨w.heap.size, 1, none⟩ = some (.int .i64 0) := cellB hb (by go_simp)); (have f0 : w1.frozen? ⟨w.heap.size, 0, none⟩ = false := (hb.frozen (p := ⟨w.heap.size, 0, none⟩) (by simp)).trans (by go_simp)); (have f1 : w1.frozen? ⟨w.heap.size, 1, none⟩ = false := (hb.frozen (p := ⟨w.heap.size, 1, none⟩) (by simp)).trans (by go_simp)); (have hz : w.heap.size < w1.heap.size := by have := hb.size; simp at this; omega); (have hB : Below w.heap.size w w1 := Below.trans (by go_grown) (hb.mono (by simp))); clear hb; have HN1 := Lib.hid (HN.out.later hB)) | (go_at_call 17; (with_reducible refine (HL.out _ HN1.out).mono ?_); rintro e w2 ⟨rfl, hb2⟩; (have c0 : w2.cell? ⟨w.heap.size, 0, none⟩ = some (.int .i64 0) := cellB hb2 (by first | assumption | go_simp)); (have c1 : w2.cell? ⟨w.heap.size, 1, none⟩ = some (.int .i64 0) := cellB hb2 (by first | assumption | go_simp)); (have f0 : w2.frozen? ⟨w.heap.size, 0, none⟩ = false := (hb2.frozen (p := ⟨w.heap.size, 0, none⟩) hz).trans f0); (have f1 : w2.frozen? ⟨w.heap.size, 1, none⟩ = false := (hb2.frozen (p := ⟨w.heap.size, 1, none⟩) hz).trans f1); (have hB2 := hB.trans (hb2.mono (Nat.le_of_lt hz))); (have hz2 : w.heap.size < w2.heap.size := Nat.lt_of_lt_of_le hz hb2.size); have HN2 := Lib.hid (HN1.out.later hb2); clear hb2) | (go_at_call 17; (with_reducible refine (HR.out _ HN2.out).mono ?_); rintro e w3 ⟨rfl, hb3⟩; (have c0 : w3.cell? ⟨w.heap.size, 0, none⟩ = some (.int .i64 0) := cellB hb3 (by first | assumption | go_simp)); (have c1 : w3.cell? ⟨w.heap.size, 1, none⟩ = some (.int .i64 0) := cellB hb3 (by first | assumption | go_simp)); (have f0 : w3.frozen? ⟨w.heap.size, 0, none⟩ = false := (hb3.frozen (p := ⟨w.heap.size, 0, none⟩) hz2).trans f0); (have f1 : w3.frozen? ⟨w.heap.size, 1, none⟩ = false := (hb3.frozen (p := ⟨w.heap.size, 1, none⟩) hz2).trans f1); (have hB3 := hB2.trans (hb3.mono (Nat.le_of_lt hz2))); (have hz3 : w.heap.size < w3.heap.size := Nat.lt_of_lt_of_le hz2 hb3.size); clear hb3))
    exact bodyPost_ret (v := .tuple #[.agg #[.int .i64 0, .int .i64 0], .bool false]) (by simp [results, Tryd.results24, go_sem, *]) rfl ⟨rfl, by go_grown⟩

set_option maxHeartbeats 1000000 in
theorem parseChord_good (t a b : ByteArray) (o op oq : Bool) (p q : Int) (w : World) (hC : ∀ W, NumW W → Calls Tryd.prog 16 #[.string t, .string ⟨#[45]⟩] W fun e w' => e = .returned (.tuple #[.string a, .string b, .bool o]) ∧ ∃ n, w' = W.drewN n) (hn : NumW w) (hl : ∀ W, NumW W → Calls Tryd.prog 17 #[.string a] W fun e w' => e = .returned (.tuple #[.int .i64 p, .bool op]) ∧ Below W.heap.size W w') (hr : ∀ W, NumW W → Calls Tryd.prog 17 #[.string b] W fun e w' => e = .returned (.tuple #[.int .i64 q, .bool oq]) ∧ Below W.heap.size W w') (h : (o && op && oq) = true) :
    Calls Tryd.prog 24 #[.string t] w fun e w' => e = .returned (.tuple #[.agg #[.int .i64 p, .int .i64 q], .bool true]) ∧ Below w.heap.size w w' := by
  have HC := Lib.hid hC
  have HL := Lib.hid hl
  have HR := Lib.hid hr
  have HN := Lib.hid hn
  clear hC hn hl hr
  rw [Bool.and_eq_true, Bool.and_eq_true] at h
  obtain ⟨⟨rfl, rfl⟩, rfl⟩ := h
  go_enter Tryd.func24, Tryd.ntmps24
  go_wp2_with (first | (go_at_call 16; (refine (HC.out _ (HN.out.later (by go_grown))).mono ?_); rintro e w1 ⟨rfl, nn, hw1⟩; (have hb : Below (w.alloc (.cells #[.int .i64 0, .int .i64 0] 44)).heap.size (w.alloc (.cells #[.int .i64 0, .int .i64 0] 44)) w1 := by (rw [hw1]; exact bdn (Below.refl _ _) _)); clear hw1; (have c0 : w1.cell? ⟨w.heap.size, 0, none⟩ = some (.int .i64 0) := cellB hb (by go_simp)); (have c1 : w1.cell? ⟨w.heap.size, 1, none⟩ = some (.int .i64 0) := cellB hb (by go_simp)); (have f0 : w1.frozen? ⟨w.heap.size, 0, none⟩ = false := (hb.frozen (p := ⟨w.heap.size, 0, none⟩) (by simp)).trans (by go_simp)); (have f1 : w1.frozen? ⟨w.heap.size, 1, none⟩ = false := (hb.frozen (p := ⟨w.heap.size, 1, none⟩) (by simp)).trans (by go_simp)); (have hz : w.heap.size < w1.heap.size := by have := hb.size; simp at this; omega); (have hB : Below w.heap.size w w1 := Below.trans (by go_grown) (hb.mono (by simp))); clear hb; have HN1 := Lib.hid (HN.out.later hB)) | (go_at_call 17; (with_reducible refine (HL.out _ HN1.out).mono ?_); rintro e w2 ⟨rfl, hb2⟩; (have c0 : w2.cell? ⟨w.heap.size, 0, none⟩ = some (.int .i64 0) := cellB hb2 (by first | assumption | go_simp)); (have c1 : w2.cell? ⟨w.heap.size, 1, none⟩ = some (.int .i64 0) := cellB hb2 (by first | assumption | go_simp)); (have f0 : w2.frozen? ⟨w.heap.size, 0, none⟩ = false := (hb2.frozen (p := ⟨w.heap.size, 0, none⟩) hz).trans f0); (have f1 : w2.frozen? ⟨w.heap.size, 1, none⟩ = false := (hb2.frozen (p := ⟨w.heap.size, 1, none⟩) hz).trans f1); (have hB2 := hB.trans (hb2.mono (Nat.le_of_lt hz))); (have hz2 : w.heap.size < w2.heap.size := Nat.lt_of_lt_of_le hz hb2.size); have HN2 := Lib.hid (HN1.out.later hb2); clear hb2) | (go_at_call 17; (with_reducible refine (HR.out _ HN2.out).mono ?_); rintro e w3 ⟨rfl, hb3⟩; (have c0 : w3.cell? ⟨w.heap.size, 0, none⟩ = some (.int .i64 0) := cellB hb3 (by first | assumption | go_simp)); (have c1 : w3.cell? ⟨w.heap.size, 1, none⟩ = some (.int .i64 0) := cellB hb3 (by first | assumption | go_simp)); (have f0 : w3.frozen? ⟨w.heap.size, 0, none⟩ = false := (hb3.frozen (p := ⟨w.heap.size, 0, none⟩) hz2).trans f0); (have f1 : w3.frozen? ⟨w.heap.size, 1, none⟩ = false := (hb3.frozen (p := ⟨w.heap.size, 1, none⟩) hz2).trans f1); (have hB3 := hB2.trans (hb3.mono (Nat.le_of_lt hz2))); (have hz3 : w.heap.size < w3.heap.size := Nat.lt_of_lt_of_le hz2 hb3.size); clear hb3))
  exact bodyPost_ret (v := .tuple #[.agg #[.int .i64 p, .int .i64 q], .bool true]) (by simp [results, Tryd.results24, go_sem, *]) rfl ⟨rfl, by go_grown⟩

theorem plain_any (s : ByteArray) (w : World) (hs : s.size ≤ 1048576) (hn : NumW w) :
    Calls Tryd.prog 17 #[.string s] w fun e w' => e = .returned (.tuple #[.int .i64 ((plainT s.data.toList).getD 0 : Nat), .bool (plainT s.data.toList).isSome]) ∧ Below w.heap.size w w' := by
  cases h : plainT s.data.toList with
  | none => exact plainNumber_no s w hs hn h
  | some n => exact plainNumber_yes s n w hs hn h

theorem parseChord_any (t : ByteArray) (w : World) (ht : t.size ≤ 1048576) (hn : NumW w) :
    Calls Tryd.prog 24 #[.string t] w fun e w' => e = .returned (.tuple #[.agg #[.int .i64 (((readC t.data.toList).getD (0, 0)).1 : Nat), .int .i64 (((readC t.data.toList).getD (0, 0)).2 : Nat)], .bool (readC t.data.toList).isSome]) ∧ Below w.heap.size w w' := by
  have l0 : t.data.toList.length ≤ 1048576 := by rw [Array.length_toList]; exact ht
  obtain ⟨l3, l4⟩ := cut_le t.data.toList 45
  have hC : ∀ W, NumW W → Calls Tryd.prog 16 #[.string t, .string ⟨#[45]⟩] W fun e w' => e = .returned (.tuple #[.string ⟨(Lib.cut t.data.toList [45]).1.toArray⟩, .string ⟨(Lib.cut t.data.toList [45]).2.1.toArray⟩, .bool (Lib.cut t.data.toList [45]).2.2]) ∧ ∃ n, w' = W.drewN n := fun W hW => by
    obtain ⟨m, hm⟩ := hW.most
    exact Any.strings_Cut Tryd.cutL t ⟨#[45]⟩ m W (by omega) hm
  have hl := fun W (h : NumW W) => plain_any ⟨(Lib.cut t.data.toList [45]).1.toArray⟩ W (by rw [list_size]; omega) h
  have hr := fun W (h : NumW W) => plain_any ⟨(Lib.cut t.data.toList [45]).2.1.toArray⟩ W (by rw [list_size]; omega) h
  dsimp only at hl hr
  have hrd : readC t.data.toList = if (Lib.cut t.data.toList [45]).2.2 && (plainT (Lib.cut t.data.toList [45]).1).isSome && (plainT (Lib.cut t.data.toList [45]).2.1).isSome then some ((plainT (Lib.cut t.data.toList [45]).1).getD 0, (plainT (Lib.cut t.data.toList [45]).2.1).getD 0) else none := by
    unfold readC
    cases (Lib.cut t.data.toList [45]).2.2 <;> cases plainT (Lib.cut t.data.toList [45]).1 <;> cases plainT (Lib.cut t.data.toList [45]).2.1 <;> rfl
  rw [hrd]
  cases ho : ((Lib.cut t.data.toList [45]).2.2 && (plainT (Lib.cut t.data.toList [45]).1).isSome && (plainT (Lib.cut t.data.toList [45]).2.1).isSome) with
  | true => exact parseChord_good t _ _ _ _ _ _ _ w hC hn hl hr ho
  | false => exact parseChord_bad t _ _ _ _ _ _ _ w hC hn hl hr ho

theorem info_strX : (Tryd.prog.info? 9).map (fun i => (i.zero, i.size, i.bytes)) = some (some (.string ByteArray.empty), 1, 16) := by kernel_rfl

/-- strings.Split at a comma. -/
theorem split_any (s : ByteArray) (P : List ByteArray) (w : World) (hs : s.size ≤ 1048576) (hn : NumW w) (hP : Lib.splitB ⟨#[44]⟩ 0 (Lib.countB s ⟨#[44]⟩) s = P) :
    Calls Tryd.prog 23 #[.string s, .string ⟨#[44]⟩] w fun e w' => e = .returned (.slice (some ⟨w.heap.size, 0, none⟩) P.length P.length) ∧ w' = w.alloc (.cells (P.map Value.string).toArray 9) := by
  obtain ⟨m, hm⟩ := hn.most
  have h := Any.strings_Split Tryd.splitL info_strX s ⟨#[44]⟩ m w (by omega) hm (Nat.le_refl 1)
  have hl := Lib.splitB_all ⟨#[44]⟩ (Nat.le_refl 1) 0 _ s rfl
  rw [hP] at h hl
  rw [hl]
  exact h

end Go.Proofs.YtnnhjnogebicbabDoor
