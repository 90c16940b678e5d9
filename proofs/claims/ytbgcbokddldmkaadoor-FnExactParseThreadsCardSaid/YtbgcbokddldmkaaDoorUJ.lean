/- Texts of threads: the mathematics, and slices of strings. -/
import Derived.Test.YtbgcbokddldmkaaDoorUG
import Derived.Test.YtbgcbokddldmkaaDoorSN
import Derived.Lib.Join
namespace Go.Proofs.YtbgcbokddldmkaaDoor
open Go.RowKit
set_option linter.unusedVariables false

def pairB (c : Int × Int) : ByteArray := dB c.1.toNat ++ ⟨#[58]⟩ ++ dB c.2.toNat

/-- Numbers of three digits at most. -/
def SmallP (xs : List (Int × Int)) : Prop := ∀ k, (xs.getD k (0, 0)).1.toNat < 1000 ∧ (xs.getD k (0, 0)).2.toNat < 1000

theorem dB_size3 (n : Nat) (h : n < 1000) : (dB n).size ≤ 3 := dB_size 3 n h

theorem pairB_size (c : Int × Int) (h : c.1.toNat < 1000 ∧ c.2.toNat < 1000) : (pairB c).size ≤ 7 := by
  have h1 := dB_size3 c.1.toNat h.1
  have h2 := dB_size3 c.2.toNat h.2
  unfold pairB
  simp only [ByteArray.size_append]
  rw [show (⟨#[58]⟩ : ByteArray).size = 1 from rfl]
  omega

/-- The text of the first so many chords. -/
def textB (xs : List (Int × Int)) : Nat → ByteArray
  | 0 => ⟨#[]⟩
  | k + 1 => (if k = 0 then textB xs k else textB xs k ++ ⟨#[44]⟩) ++ pairB (xs.getD k (0, 0))

theorem textB_size (xs : List (Int × Int)) (hs : SmallP xs) : ∀ k, (textB xs k).size ≤ 8 * k
  | 0 => by simp [textB, ByteArray.size]
  | k + 1 => by
    have ih := textB_size xs hs k
    have h := pairB_size (xs.getD k (0, 0)) (hs k)
    rw [textB, ByteArray.size_append]
    split
    · omega
    · rw [ByteArray.size_append, show (⟨#[44]⟩ : ByteArray).size = 1 from rfl]
      omega

theorem join_snoc (l : List (List UInt8)) (y sep : List UInt8) (h : l ≠ []) : Lib.join (l ++ [y]) sep = Lib.join l sep ++ sep ++ y := by
  cases l with
  | nil => exact absurd rfl h
  | cons x r =>
    rw [List.cons_append, Lib.join_cons, Lib.join_cons]
    simp [Lib.joinTail, List.append_assoc]

/-- The texts of the first so many chords, one by one. -/
def textsB (xs : List (Int × Int)) (k : Nat) : List ByteArray := (List.range k).map fun i => pairB (xs.getD i (0, 0))

theorem textsB_length (xs : List (Int × Int)) (k : Nat) : (textsB xs k).length = k := by simp [textsB]

theorem textsB_succ (xs : List (Int × Int)) (k : Nat) : textsB xs (k + 1) = textsB xs k ++ [pairB (xs.getD k (0, 0))] := by simp [textsB, List.range_succ]

theorem textB_join (xs : List (Int × Int)) : ∀ k, textB xs k = ⟨(Lib.join ((textsB xs k).map (·.data.toList)) [44]).toArray⟩
  | 0 => rfl
  | k + 1 => by
    rw [textB, textB_join xs k, textsB_succ, List.map_append]
    by_cases h : k = 0
    · subst h
      rw [if_pos rfl]
      apply ByteArray.ext
      rw [ByteArray.data_append]
      simp [textsB, Lib.join_one, Lib.join_nil]
    · rw [if_neg h, List.map_cons, List.map_nil, join_snoc _ _ _ (by
        intro e
        have := congrArg List.length e
        rw [List.length_map, textsB_length] at this
        simp at this
        exact h this)]
      apply ByteArray.ext
      rw [ByteArray.data_append, ByteArray.data_append]
      simp

theorem join_size (xs : List (Int × Int)) (hs : SmallP xs) (k : Nat) : (Lib.join ((textsB xs k).map (·.data.toList)) [44]).length ≤ 8 * k := by
  have h := textB_size xs hs k
  rw [textB_join] at h
  simpa [ByteArray.size] using h

/-- The values L fill block g. -/
def ValAt (t : TypeId) (w : World) (g : Nat) (L : List Value) : Prop := w.heap[g]? = some (.cells L.toArray t (0, 0))

theorem ValAt.cell {t : TypeId} {w : World} {g : Nat} {L : List Value} (h : ValAt t w g L) (q : Nat) (x : Value) (hq : L[q]? = some x) : w.cell? ⟨g, q, none⟩ = some x :=
  (cell_of_row w g q _ _ (0, 0) h).trans (by rw [List.getElem?_toArray, hq])

theorem ValAt.frozen {t : TypeId} {w : World} {g : Nat} {L : List Value} (h : ValAt t w g L) (q : Nat) : w.frozen? ⟨g, q, none⟩ = false := frozen_of_row w g q _ _ h

theorem ValAt.lt {t : TypeId} {w : World} {g : Nat} {L : List Value} (h : ValAt t w g L) : g < w.heap.size := by
  unfold ValAt at h
  exact (Array.getElem?_eq_some_iff.1 h).1

theorem ValAt.keep {t : TypeId} {w w' : World} {g : Nat} {L : List Value} (h : ValAt t w g L) (hb : Below w.heap.size w w') : ValAt t w' g L :=
  (hb.block g h.lt).trans h

theorem ValAt.stored {t : TypeId} {w : World} {g : Nat} {L : List Value} (h : ValAt t w g L) (j : Nat) (x : Value) : ValAt t (w.setCell ⟨g, j, none⟩ x) g (L.set j x) := by
  unfold ValAt
  rw [heap_setCell_same w g j _ t _ h]
  simp

/-- n new strings. -/
theorem make_strs {P : Program} {t e : TypeId} (ht : P.underlying t = some (.slice e)) (hi : (P.info? e).map (fun i => (i.zero, i.size, i.bytes)) = some (some (.string ⟨#[]⟩), 1, 16)) (n : Nat) (hn : n ≤ 1000000) :
    ∀ W : World, (Instr.makeSlice t (.int .i64 (n : Int)) (.int .i64 (n : Int))).run P W = .ok (.slice (some ⟨W.heap.size, 0, none⟩) n n) (W.alloc (.cells (List.replicate n (Value.string ⟨#[]⟩)).toArray e)) := by
  intro W
  obtain ⟨i, hi, hz0, hz1, hz2⟩ := info_parts hi
  have := run_make (P := P) W t e i (.string ⟨#[]⟩) ht hi hz0 .i64 .i64 (n : Int) (n : Int) (by omega) (Int.le_refl _) (by rw [hz2]; omega) (by omega)
  rw [this, hz1]
  congr 3
  · congr 1
    apply Array.ext_getElem?
    intro j
    by_cases h : j < n
    · simp [madeCells, h, Nat.mod_one, Value.cells]
    · simp [madeCells, h, Value.cells]

/-- The first k texts, and empty ones for the rest. -/
def partB (xs : List (Int × Int)) (n k : Nat) : List Value := (textsB xs k).map Value.string ++ List.replicate (n - k) (Value.string ⟨#[]⟩)

theorem partB_set (xs : List (Int × Int)) (n k : Nat) (h : k < n) : (partB xs n k).set k (.string (pairB (xs.getD k (0, 0)))) = partB xs n (k + 1) := by
  unfold partB
  rw [List.set_append_right _ _ (by simp [textsB_length]), List.length_map, textsB_length, Nat.sub_self, show n - k = (n - (k + 1)) + 1 by omega, List.replicate_succ, List.set_cons_zero, textsB_succ]
  simp

theorem partB_get (xs : List (Int × Int)) (n k : Nat) (h : k < n) : (partB xs n k)[k]? = some (.string ⟨#[]⟩) := by
  unfold partB
  rw [List.getElem?_append_right (by simp [textsB_length]), List.length_map, textsB_length, Nat.sub_self, show n - k = (n - (k + 1)) + 1 by omega]
  rfl

theorem partB_zero (xs : List (Int × Int)) (n : Nat) : partB xs n 0 = List.replicate n (Value.string ⟨#[]⟩) := by simp [partB, textsB]

theorem partB_all (xs : List (Int × Int)) (n : Nat) : partB xs n n = (textsB xs n).map Value.string := by simp [partB]

end Go.Proofs.YtbgcbokddldmkaaDoor
