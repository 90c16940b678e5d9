/- Regions: what a chord makes of a region, by the program. -/
import Derived.Test.YtnldnjgnpdicnaaZE
import Derived.Test.YtnldnjgnpdicnaaBA
import Derived.Test.YtnldnjgnpdicnaaB7
import Derived.Test.YtnldnjgnpdicnaaK3
namespace Go.Proofs.Ytnldnjgnpdicnaa
open Go.RowKit
set_option linter.unusedVariables false

theorem info_intR : (Try.prog.info? 3).map (fun i => (i.zero, i.size, i.bytes)) = some (some (.int .i64 0), 1, 8) := by kernel_rfl
theorem info_chordR : (Try.prog.info? 52).map (fun i => (i.zero, i.size, i.bytes)) = some (some (.agg #[.int .i64 0, .int .i64 0]), 2, 16) := by kernel_rfl

set_option maxHeartbeats 400000 in
theorem side_in (x y p : Int) (g : Nat) (b : Bool) (w : World) (h0 : w.cell? ⟨g, 0, none⟩ = some (.int .i64 x)) (h1 : w.cell? ⟨g, 1, none⟩ = some (.int .i64 y)) (hb : inS (x, y) p = b) :
    Calls Try.prog 135 #[.int .i64 p, .pointer (some ⟨g, 0, none⟩)] w fun e w' => e = .returned (.bool b) ∧ w = w' := by
  rw [← hb]
  clear hb
  obtain ⟨s, hs⟩ : ∃ s, decide (x ≤ p) = s := ⟨_, rfl⟩
  obtain ⟨t, ht⟩ : ∃ t, decide (p ≤ y) = t := ⟨_, rfl⟩
  have he : inS (x, y) p = (s && t) := by rw [← hs, ← ht]; unfold inS; simp
  rw [he]
  clear he
  go_enter Try.func135, Try.ntmps135
  cases s <;> cases t
  all_goals
    go_wp2
    go_ret
    exact ⟨rfl, rfl⟩

set_option maxHeartbeats 400000 in
theorem side_out (x y p : Int) (g : Nat) (b : Bool) (w : World) (h0 : w.cell? ⟨g, 0, none⟩ = some (.int .i64 x)) (h1 : w.cell? ⟨g, 1, none⟩ = some (.int .i64 y)) (hb : outS (x, y) p = b) :
    Calls Try.prog 136 #[.int .i64 p, .pointer (some ⟨g, 0, none⟩)] w fun e w' => e = .returned (.bool b) ∧ w = w' := by
  rw [← hb]
  clear hb
  obtain ⟨s, hs⟩ : ∃ s, decide (p ≤ x) = s := ⟨_, rfl⟩
  obtain ⟨t, ht⟩ : ∃ t, decide (y ≤ p) = t := ⟨_, rfl⟩
  have he : outS (x, y) p = (s || t) := by rw [← hs, ← ht]; unfold outS; simp
  rw [he]
  clear he
  go_enter Try.func136, Try.ntmps136
  cases s <;> cases t
  all_goals
    go_wp2
    go_ret
    exact ⟨rfl, rfl⟩

theorem heap_three (w : World) (X Y Z : Obj) : (((w.alloc X).alloc Y).alloc Z).heap[w.heap.size]? = some X ∧ (((w.alloc X).alloc Y).alloc Z).heap[w.heap.size + 1]? = some Y ∧ (((w.alloc X).alloc Y).alloc Z).heap[w.heap.size + 1 + 1]? = some Z := by
  refine ⟨?_, ?_, ?_⟩
  · rw [Below.heap_alloc _ _ _ (by simp; omega), Below.heap_alloc _ _ _ (by simp)]
    exact heap_alloc_new w X
  · rw [Below.heap_alloc _ _ _ (by simp)]
    have := heap_alloc_new (w.alloc X) Y
    simpa only [World.size_alloc] using this
  · have := heap_alloc_new ((w.alloc X).alloc Y) Z
    simpa only [World.size_alloc] using this

theorem filter_take_yes {α : Type} (f : α → Bool) (xs : List α) (z : α) (k : Nat) (h : k < xs.length) (hf : f (xs.getD k z) = true) : (xs.take (k + 1)).filter f = (xs.take k).filter f ++ [xs.getD k z] := by
  rw [List.getD_eq_getElem?_getD, List.getElem?_eq_getElem h] at hf ⊢
  rw [List.take_succ_eq_append_getElem h, List.filter_append]
  simp only [Option.getD_some] at hf ⊢
  simp [hf]

theorem filter_take_no {α : Type} (f : α → Bool) (xs : List α) (z : α) (k : Nat) (h : k < xs.length) (hf : f (xs.getD k z) = false) : (xs.take (k + 1)).filter f = (xs.take k).filter f := by
  rw [List.getD_eq_getElem?_getD, List.getElem?_eq_getElem h] at hf
  rw [List.take_succ_eq_append_getElem h, List.filter_append]
  simp only [Option.getD_some] at hf
  simp [hf]

/-- The three boxes of a part: the region, what comes out, and the part as it grows. -/
structure Boxes (w wr : World) (X U V : Value) (Y : Value) : Prop where
  x : wr.heap[w.heap.size]? = some (.cells #[X, Y] 140 (0, 0))
  o : wr.heap[w.heap.size + 1]? = some (.cells #[.slice none 0 0, .slice none 0 0] 140 (0, 0))
  p : wr.heap[w.heap.size + 1 + 1]? = some (.cells #[U, V] 140 (0, 0))

theorem Boxes.lt {w wr : World} {X U V Y : Value} (h : Boxes w wr X U V Y) : w.heap.size + 1 + 1 < wr.heap.size := (Array.getElem?_eq_some_iff.1 h.p).1
theorem Boxes.cells {w wr : World} {X U V Y : Value} (h : Boxes w wr X U V Y) : wr.cell? ⟨w.heap.size, 0, none⟩ = some X ∧ wr.cell? ⟨w.heap.size, 1, none⟩ = some Y ∧ wr.cell? ⟨w.heap.size + 1, 0, none⟩ = some (.slice none 0 0) ∧ wr.cell? ⟨w.heap.size + 1, 1, none⟩ = some (.slice none 0 0) ∧ wr.cell? ⟨w.heap.size + 1 + 1, 0, none⟩ = some U ∧ wr.cell? ⟨w.heap.size + 1 + 1, 1, none⟩ = some V :=
  ⟨(cell_of_row wr _ 0 _ _ (0, 0) h.x).trans rfl, (cell_of_row wr _ 1 _ _ (0, 0) h.x).trans rfl, (cell_of_row wr _ 0 _ _ (0, 0) h.o).trans rfl, (cell_of_row wr _ 1 _ _ (0, 0) h.o).trans rfl, (cell_of_row wr _ 0 _ _ (0, 0) h.p).trans rfl, (cell_of_row wr _ 1 _ _ (0, 0) h.p).trans rfl⟩
theorem Boxes.frozen {w wr : World} {X U V Y : Value} (h : Boxes w wr X U V Y) : wr.frozen? ⟨w.heap.size + 1, 0, none⟩ = false ∧ wr.frozen? ⟨w.heap.size + 1, 1, none⟩ = false ∧ wr.frozen? ⟨w.heap.size + 1 + 1, 0, none⟩ = false ∧ wr.frozen? ⟨w.heap.size + 1 + 1, 1, none⟩ = false :=
  ⟨frozen_of_row wr _ 0 _ _ h.o, frozen_of_row wr _ 1 _ _ h.o, frozen_of_row wr _ 0 _ _ h.p, frozen_of_row wr _ 1 _ _ h.p⟩
theorem Boxes.grown {w wr w' : World} {X U V Y : Value} (h : Boxes w wr X U V Y) {row : Option Nat} (hg : wr.grownBy w' row) (hr : ∀ k, row = some k → w.heap.size + 1 + 1 < k) : Boxes w w' X U V Y := by
  have hl := h.lt
  exact ⟨(hg.block _ (by omega) (fun e => by have := hr _ e.symm; omega)).trans h.x, (hg.block _ (by omega) (fun e => by have := hr _ e.symm; omega)).trans h.o, (hg.block _ (by omega) (fun e => by have := hr _ e.symm; omega)).trans h.p⟩
theorem Boxes.later {w wr w' : World} {X U V Y : Value} (h : Boxes w wr X U V Y) (hb : Below wr.heap.size wr w') : Boxes w w' X U V Y := by
  have hl := h.lt
  exact ⟨(hb.block _ (by omega)).trans h.x, (hb.block _ (by omega)).trans h.o, (hb.block _ (by omega)).trans h.p⟩
theorem Boxes.put0 {w wr : World} {X U V Y : Value} (h : Boxes w wr X U V Y) (u : Value) : Boxes w (wr.setCell ⟨w.heap.size + 1 + 1, 0, none⟩ u) X u V Y :=
  ⟨(heap_setCell_other wr _ _ u (by simp; omega)).trans h.x, (heap_setCell_other wr _ _ u (by simp)).trans h.o, (heap_setCell_same wr _ 0 _ _ u h.p).trans (by simp)⟩
theorem Boxes.put1 {w wr : World} {X U V Y : Value} (h : Boxes w wr X U V Y) (v : Value) : Boxes w (wr.setCell ⟨w.heap.size + 1 + 1, 1, none⟩ v) X U v Y :=
  ⟨(heap_setCell_other wr _ _ v (by simp; omega)).trans h.x, (heap_setCell_other wr _ _ v (by simp)).trans h.o, (heap_setCell_same wr _ 1 _ _ v h.p).trans (by simp)⟩

theorem Ints.put {w : World} {B g o : Nat} {e : TypeId} {v u : Value} {xs : List Int} (h : Ints w B e v xs) (hg : g < B) : Ints (w.setCell ⟨g, o, none⟩ u) B e v xs := by
  refine ⟨h.1, ?_⟩
  rcases h.2 with h1 | ⟨b, cap, cur, hv, hB, hh, hn, hm, hz, ht⟩
  · exact .inl h1
  · exact .inr ⟨b, cap, cur, hv, hB, (heap_setCell_other w _ _ u (by simp; omega)).trans hh, hn, hm, hz, ht⟩
theorem Pairs.put {w : World} {B g o : Nat} {e : TypeId} {v u : Value} {xs : List (Int × Int)} (h : Pairs w B e v xs) (hg : g < B) : Pairs (w.setCell ⟨g, o, none⟩ u) B e v xs := by
  refine ⟨h.1, ?_⟩
  rcases h.2 with h1 | ⟨b, cap, cur, hv, hB, hh, hn, hm, hz, ht⟩
  · exact .inl h1
  · exact .inr ⟨b, cap, cur, hv, hB, (heap_setCell_other w _ _ u (by simp; omega)).trans hh, hn, hm, hz, ht⟩
theorem Pairs.opened {w : World} {B : Nat} {e : TypeId} {v : Value} {xs : List (Int × Int)} (h : Pairs w B e v xs) : ∃ a0 cap, v = .slice a0 xs.length cap := by
  obtain ⟨a0, cap, g, hv, _⟩ := h.view
  exact ⟨a0, cap, hv⟩
theorem Ints.openedR {w : World} {B : Nat} {e : TypeId} {v : Value} {xs : List Int} (h : Ints w B e v xs) : ∃ a0 cap, v = .slice a0 xs.length cap := by
  obtain ⟨a0, cap, g, hv, _⟩ := h.view
  exact ⟨a0, cap, hv⟩
end Go.Proofs.Ytnldnjgnpdicnaa
