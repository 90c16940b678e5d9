/- Texts of puzzles: the mathematics, and slices of strings. -/
import Derived.Test.YtbgcbokddldmkaaDoorBA
import Derived.Test.YtbgcbokddldmkaaDoorX3
import Derived.Test.YtbgcbokddldmkaaDoorSN
import Derived.Test.YtbgcbokddldmkaaDoorD3
import Derived.Lib.Join
namespace Go.Proofs.YtbgcbokddldmkaaDoor
open Go.RowKit
set_option linter.unusedVariables false

/-- The text of a clue. -/
def clueB (c : Tri) : ByteArray := dB c.1.toNat ++ ⟨#[46]⟩ ++ dB c.2.1.toNat ++ ⟨#[46]⟩ ++ dB c.2.2.toNat

/-- Numbers of three digits at most. -/
def SmallT (xs : List Tri) : Prop := ∀ k, (xs.getD k noT).1.toNat < 1000 ∧ (xs.getD k noT).2.1.toNat < 1000 ∧ (xs.getD k noT).2.2.toNat < 1000

theorem dB_size3 (n : Nat) (h : n < 1000) : (dB n).size ≤ 3 := dB_size 3 n h

theorem clueB_size (c : Tri) (h : c.1.toNat < 1000 ∧ c.2.1.toNat < 1000 ∧ c.2.2.toNat < 1000) : (clueB c).size ≤ 11 := by
  have h1 := dB_size3 c.1.toNat h.1
  have h2 := dB_size3 c.2.1.toNat h.2.1
  have h3 := dB_size3 c.2.2.toNat h.2.2
  unfold clueB
  simp only [ByteArray.size_append]
  rw [show (⟨#[46]⟩ : ByteArray).size = 1 from rfl]
  omega

/-- The text of the first so many clues. -/
def ptextB (xs : List Tri) : Nat → ByteArray
  | 0 => ⟨#[]⟩
  | k + 1 => (if k = 0 then ptextB xs k else ptextB xs k ++ ⟨#[44]⟩) ++ clueB (xs.getD k noT)

theorem ptextB_size (xs : List Tri) (hs : SmallT xs) : ∀ k, (ptextB xs k).size ≤ 12 * k
  | 0 => by simp [ptextB, ByteArray.size]
  | k + 1 => by
    have ih := ptextB_size xs hs k
    have h := clueB_size (xs.getD k noT) (hs k)
    rw [ptextB, ByteArray.size_append]
    split
    · omega
    · rw [ByteArray.size_append, show (⟨#[44]⟩ : ByteArray).size = 1 from rfl]
      omega

theorem join_snoc (l : List (List UInt8)) (y sep : List UInt8) (h : l ≠ []) : Lib.join (l ++ [y]) sep = Lib.join l sep ++ sep ++ y := by
  cases l with
  | nil => exact absurd rfl h
  | cons x r =>
    rw [List.cons_append, Lib.join_cons, Lib.join_cons]
    simp [Lib.joinTail, List.append_assoc]

/-- The texts of the first so many clues, one by one. -/
def ptextsB (xs : List Tri) (k : Nat) : List ByteArray := (List.range k).map fun i => clueB (xs.getD i noT)

theorem ptextsB_length (xs : List Tri) (k : Nat) : (ptextsB xs k).length = k := by simp [ptextsB]

theorem ptextsB_succ (xs : List Tri) (k : Nat) : ptextsB xs (k + 1) = ptextsB xs k ++ [clueB (xs.getD k noT)] := by simp [ptextsB, List.range_succ]

theorem ptextB_join (xs : List Tri) : ∀ k, ptextB xs k = ⟨(Lib.join ((ptextsB xs k).map (·.data.toList)) [44]).toArray⟩
  | 0 => rfl
  | k + 1 => by
    rw [ptextB, ptextB_join xs k, ptextsB_succ, List.map_append]
    by_cases h : k = 0
    · subst h
      rw [if_pos rfl]
      apply ByteArray.ext
      rw [ByteArray.data_append]
      simp [ptextsB, Lib.join_one, Lib.join_nil]
    · rw [if_neg h, List.map_cons, List.map_nil, join_snoc _ _ _ (by
        intro e
        have := congrArg List.length e
        rw [List.length_map, ptextsB_length] at this
        simp at this
        exact h this)]
      apply ByteArray.ext
      rw [ByteArray.data_append, ByteArray.data_append]
      simp

theorem pjoin_size (xs : List Tri) (hs : SmallT xs) (k : Nat) : (Lib.join ((ptextsB xs k).map (·.data.toList)) [44]).length ≤ 12 * k := by
  have h := ptextB_size xs hs k
  rw [ptextB_join] at h
  simpa [ByteArray.size] using h

/-- The values L fill block g. -/
def ValAt (t : TypeId) (w : World) (g : Nat) (L : List Value) : Prop := w.heap[g]? = some (.cells L.toArray t (0, 0))

theorem ValAt.cell {t : TypeId} {w : World} {g : Nat} {L : List Value} (h : ValAt t w g L) (q : Nat) (x : Value) (hq : L[q]? = some x) : w.cell? ⟨g, q, none⟩ = some x :=
  (cell_of_row w g q _ _ (0, 0) h).trans (by rw [List.getElem?_toArray, hq])

theorem ValAt.frozen {t : TypeId} {w : World} {g : Nat} {L : List Value} (h : ValAt t w g L) (q : Nat) : w.frozen? ⟨g, q, none⟩ = false := frozen_of_row w g q _ _ h

theorem ValAt.lt {t : TypeId} {w : World} {g : Nat} {L : List Value} (h : ValAt t w g L) : g < w.heap.size := by
  unfold ValAt at h
  exact (Array.getElem?_eq_some_iff.1 h).1

theorem ValAt.keep {t : TypeId} {w w' : World} {g : Nat} {L : List Value} (h : ValAt t w g L) (hb : Below w.heap.size w w') : ValAt t w' g L :=
  (hb.block g h.lt).trans h

theorem ValAt.stored {t : TypeId} {w : World} {g : Nat} {L : List Value} (h : ValAt t w g L) (j : Nat) (x : Value) : ValAt t (w.setCell ⟨g, j, none⟩ x) g (L.set j x) := by
  unfold ValAt
  rw [heap_setCell_same w g j _ t _ h]
  simp

/-- n new strings. -/
theorem make_strs {P : Program} {t e : TypeId} (ht : P.underlying t = some (.slice e)) (hi : (P.info? e).map (fun i => (i.zero, i.size, i.bytes)) = some (some (.string ⟨#[]⟩), 1, 16)) (n : Nat) (hn : n ≤ 1000000) :
    ∀ W : World, (Instr.makeSlice t (.int .i64 (n : Int)) (.int .i64 (n : Int))).run P W = .ok (.slice (some ⟨W.heap.size, 0, none⟩) n n) (W.alloc (.cells (List.replicate n (Value.string ⟨#[]⟩)).toArray e)) := by
  intro W
  obtain ⟨i, hi, hz0, hz1, hz2⟩ := info_parts hi
  have := run_make (P := P) W t e i (.string ⟨#[]⟩) ht hi hz0 .i64 .i64 (n : Int) (n : Int) (by omega) (Int.le_refl _) (by rw [hz2]; omega) (by omega)
  rw [this, hz1]
  congr 3
  · congr 1
    apply Array.ext_getElem?
    intro j
    by_cases h : j < n
    · simp [madeCells, h, Nat.mod_one, Value.cells]
    · simp [madeCells, h, Value.cells]

/-- The first k texts, and empty ones for the rest. -/
def ppartB (xs : List Tri) (n k : Nat) : List Value := (ptextsB xs k).map Value.string ++ List.replicate (n - k) (Value.string ⟨#[]⟩)

theorem ppartB_set (xs : List Tri) (n k : Nat) (h : k < n) : (ppartB xs n k).set k (.string (clueB (xs.getD k noT))) = ppartB xs n (k + 1) := by
  unfold ppartB
  rw [List.set_append_right _ _ (by simp [ptextsB_length]), List.length_map, ptextsB_length, Nat.sub_self, show n - k = (n - (k + 1)) + 1 by omega, List.replicate_succ, List.set_cons_zero, ptextsB_succ]
  simp

theorem ppartB_get (xs : List Tri) (n k : Nat) (h : k < n) : (ppartB xs n k)[k]? = some (.string ⟨#[]⟩) := by
  unfold ppartB
  rw [List.getElem?_append_right (by simp [ptextsB_length]), List.length_map, ptextsB_length, Nat.sub_self, show n - k = (n - (k + 1)) + 1 by omega]
  rfl

theorem ppartB_zero (xs : List Tri) (n : Nat) : ppartB xs n 0 = List.replicate n (Value.string ⟨#[]⟩) := by simp [ppartB, ptextsB]

theorem ppartB_all (xs : List Tri) (n : Nat) : ppartB xs n n = (ptextsB xs n).map Value.string := by simp [ppartB]

end Go.Proofs.YtbgcbokddldmkaaDoor
