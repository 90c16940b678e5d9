/- Slices of bytes that a call made itself with all its cells. Nothing of the program. -/
import Derived.Test.YtnldnjgnpdicnaaB7
import Derived.Laws.CopyOwn
namespace Go.Proofs.Ytnldnjgnpdicnaa
open Go.RowKit

def byteCells (xs : List Int) : Array Value := (xs.map (Value.int .u8)).toArray

/-- The bytes L fill block g. -/
def BytAt (t : TypeId) (w : World) (g : Nat) (L : List Int) : Prop := w.heap[g]? = some (.cells (byteCells L) t (0, 0))

theorem byteCells_get (xs : List Int) (j : Nat) (h : j < xs.length) : (byteCells xs)[j]? = some (.int .u8 (xs.getD j 0)) := by
  unfold byteCells
  rw [List.getElem?_toArray, List.getElem?_map, List.getElem?_eq_getElem h]
  simp [List.getD, List.getElem?_eq_getElem h]

theorem byteCells_set (xs : List Int) (j : Nat) (x : Int) : (byteCells xs).setIfInBounds j (.int .u8 x) = byteCells (xs.set j x) := by
  simp [byteCells, List.map_set]

theorem BytAt.cell {t : TypeId} {w : World} {g : Nat} {L : List Int} (h : BytAt t w g L) (q : Nat) (hq : q < L.length) : w.cell? ⟨g, q, none⟩ = some (.int .u8 (L.getD q 0)) :=
  (cell_of_row w g q _ _ (0, 0) h).trans (byteCells_get L q hq)

theorem BytAt.frozen {t : TypeId} {w : World} {g : Nat} {L : List Int} (h : BytAt t w g L) (q : Nat) : w.frozen? ⟨g, q, none⟩ = false := frozen_of_row w g q _ _ h

theorem BytAt.lt {t : TypeId} {w : World} {g : Nat} {L : List Int} (h : BytAt t w g L) : g < w.heap.size := by
  unfold BytAt at h
  exact (Array.getElem?_eq_some_iff.1 h).1

theorem BytAt.keep {t : TypeId} {w w' : World} {g : Nat} {L : List Int} (h : BytAt t w g L) (hb : Below w.heap.size w w') : BytAt t w' g L :=
  (hb.block g h.lt).trans h

theorem BytAt.stored {t : TypeId} {w : World} {g : Nat} {L : List Int} (h : BytAt t w g L) (j : Nat) (x : Int) : BytAt t (w.setCell ⟨g, j, none⟩ (.int .u8 x)) g (L.set j x) := by
  unfold BytAt
  rw [heap_setCell_same w g j _ t _ h, byteCells_set]

theorem BytAt.other {t : TypeId} {w : World} {g b o : Nat} {L : List Int} (h : BytAt t w g L) (v : Value) (hb : g ≠ b) : BytAt t (w.setCell ⟨b, o, none⟩ v) g L :=
  (heap_setCell_other w ⟨b, o, none⟩ g v hb).trans h

theorem BytAt.kept {t : TypeId} {w w' : World} {B g : Nat} {L : List Int} {e : TypeId} {v : Value} {xs : List Int} (hr : BytAt t w g L) (h : Ints w B e v xs) (hg : w.grownBy w' v.ownBlock) (hB : g < B) : BytAt t w' g L :=
  (hg.block g hr.lt (fun e => by have := (h.own g e.symm).1; omega)).trans hr

theorem BytAt.only {t : TypeId} {w w' : World} {B T g : Nat} {L : List Int} (hr : BytAt t w g L) (h : Only B T w w') (hd : g < B ∨ T ≤ g) : BytAt t w' g L :=
  (h.block g hr.lt (by omega)).trans hr

/-- n new bytes. -/
theorem make_bytes {P : Program} {t e : TypeId} (ht : P.underlying t = some (.slice e)) (hi : (P.info? e).map (fun i => (i.zero, i.size, i.bytes)) = some (some (.int .u8 0), 1, 1)) (n : Nat) (hn : n ≤ 1000000000) :
    ∀ W : World, (Instr.makeSlice t (.int .i64 (n : Int)) (.int .i64 (n : Int))).run P W = .ok (.slice (some ⟨W.heap.size, 0, none⟩) n n) (W.alloc (.cells (byteCells (List.replicate n 0)) e)) := by
  intro W
  obtain ⟨i, hi, hz0, hz1, hz2⟩ := info_parts hi
  have := run_make (P := P) W t e i (.int .u8 0) ht hi hz0 .i64 .i64 (n : Int) (n : Int) (by omega) (Int.le_refl _) (by rw [hz2]; omega) (by omega)
  rw [this, hz1]
  congr 3
  · congr 1
    unfold byteCells
    apply Array.ext_getElem?
    intro j
    by_cases h : j < n
    · simp [madeCells, h, Nat.mod_one, Value.cells]
    · simp [madeCells, h, Value.cells]

end Go.Proofs.Ytnldnjgnpdicnaa
