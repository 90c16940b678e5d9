/- Arrays of integers in a block of their own. Nothing of the program. -/
import Derived.Test.YtnldnjgnpdicnaaB7
import Derived.Laws.CopyOwn
namespace Go.Proofs.Ytnldnjgnpdicnaa
open Go.RowKit

/-- The array L lies in block g. -/
def ArrAt (t : TypeId) (w : World) (g : Nat) (L : List Int) : Prop := w.heap[g]? = some (.cells (intCells L) t (0, 0))

theorem ArrAt.cell {t : TypeId} {w : World} {g : Nat} {L : List Int} (h : ArrAt t w g L) (q : Nat) (hq : q < L.length) : w.cell? ⟨g, q, none⟩ = some (.int .i64 (L.getD q 0)) :=
  (cell_of_row w g q _ _ (0, 0) h).trans (intCells_get L q hq)

theorem ArrAt.frozen {t : TypeId} {w : World} {g : Nat} {L : List Int} (h : ArrAt t w g L) (q : Nat) : w.frozen? ⟨g, q, none⟩ = false := frozen_of_row w g q _ _ h

theorem ArrAt.lt {t : TypeId} {w : World} {g : Nat} {L : List Int} (h : ArrAt t w g L) : g < w.heap.size := by
  unfold ArrAt at h
  exact (Array.getElem?_eq_some_iff.1 h).1

theorem ArrAt.keep {t : TypeId} {w w' : World} {g : Nat} {L : List Int} (h : ArrAt t w g L) (hb : Below w.heap.size w w') : ArrAt t w' g L :=
  (hb.block g h.lt).trans h

theorem ArrAt.below {t : TypeId} {w w' : World} {B g : Nat} {L : List Int} (h : ArrAt t w g L) (hb : Below B w w') (hg : g < B) : ArrAt t w' g L :=
  (hb.block g hg).trans h

theorem ArrAt.new (t : TypeId) (w : World) (L : List Int) : ArrAt t (w.alloc (.cells (intCells L) t)) w.heap.size L := heap_alloc_new w _

theorem ArrAt.alloc {t : TypeId} {w : World} {g : Nat} {L : List Int} (h : ArrAt t w g L) (o : Obj) : ArrAt t (w.alloc o) g L := (heap_alloc_old w o h.lt).trans h

theorem ArrAt.stored {t : TypeId} {w : World} {g : Nat} {L : List Int} (h : ArrAt t w g L) (j : Nat) (x : Int) : ArrAt t (w.setCell ⟨g, j, none⟩ (.int .i64 x)) g (L.set j x) := by
  unfold ArrAt
  rw [heap_setCell_same w g j _ t _ h, intCells_set]

theorem ArrAt.kept {t : TypeId} {w w' : World} {B g : Nat} {L : List Int} {e : TypeId} {v : Value} {xs : List Int} (hr : ArrAt t w g L) (h : Ints w B e v xs) (hg : w.grownBy w' v.ownBlock) (hB : g < B) : ArrAt t w' g L :=
  (hg.block g hr.lt (fun e => by have := (h.own g e.symm).1; omega)).trans hr

theorem ArrAt.other {t : TypeId} {w : World} {g b o : Nat} {L : List Int} (h : ArrAt t w g L) (v : Value) (hb : g ≠ b) : ArrAt t (w.setCell ⟨b, o, none⟩ v) g L :=
  (heap_setCell_other w ⟨b, o, none⟩ g v hb).trans h

end Go.Proofs.Ytnldnjgnpdicnaa
