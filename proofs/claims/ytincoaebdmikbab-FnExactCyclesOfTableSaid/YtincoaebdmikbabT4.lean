/- Times tables: rows as arrays. -/
import Derived.Test.YtincoaebdmikbabT2
import Derived.Test.YtincoaebdmikbabV0
import Derived.Deep.WholeRow
import Derived.Laws.CopyOwn
namespace Go.Proofs.Ytincoaebdmikbab
open Go.RowKit
set_option linter.unusedVariables false

/-- The array of a row of which the first n points are filled. -/
def rowV (p f n : Nat) : Array Value := ((rowT p f n).map (Value.int .i64) ++ List.replicate (60 - n) (Value.int .i64 0)).toArray

theorem rowV_size (p f n : Nat) (h : n ≤ 60) : (rowV p f n).size = 60 := by simp [rowV, rowT_length]; omega

theorem rowV_set (p f n : Nat) (h : n < 60) : (rowV p f n).setIfInBounds n (.int .i64 ((n : Int) * (f : Int) % (p : Int))) = rowV p f (n + 1) := by
  rw [show (n : Int) * (f : Int) % (p : Int) = ((n * f % p : Nat) : Int) by simp]
  unfold rowV
  have e : 60 - n = (60 - (n + 1)) + 1 := by omega
  rw [List.setIfInBounds_toArray, List.set_append_right _ _ (by simp [rowT_length]), List.length_map, rowT_length, Nat.sub_self, e, List.replicate_succ, List.set_cons_zero, ← rowT_succ]
  simp

theorem rowV_one (p f n : Nat) : (rowV p f n).all (·.oneCell') = true := by
  unfold rowV
  rw [List.all_toArray, List.all_eq_true]
  intro v hv
  rw [List.mem_append] at hv
  rcases hv with hv | hv
  · obtain ⟨x, _, rfl⟩ := List.mem_map.1 hv
    rfl
  · obtain ⟨_, rfl⟩ := List.mem_replicate.1 hv
    rfl

theorem rowV_get (p f n q : Nat) (h : q < n) : (rowV p f n)[q]? = some (.int .i64 ((q * f % p : Nat) : Int)) := by
  unfold rowV
  rw [List.getElem?_toArray, List.getElem?_append_left (by simp [rowT_length]; omega)]
  simp [rowT, List.getElem?_range h]

theorem rowV_zero (p f n : Nat) (h : n < 60) : (rowV p f n)[n]? = some (.int .i64 0) := by
  unfold rowV
  rw [List.getElem?_toArray, List.getElem?_append_right (by simp [rowT_length])]
  have e : 60 - n = (60 - (n + 1)) + 1 := by omega
  rw [List.length_map, rowT_length, Nat.sub_self, e, List.replicate_succ]
  rfl

theorem info_row : (Try.prog.info? 45).map (·.size) = some 60 := by kernel_rfl

set_option maxHeartbeats 2000000 in
set_option maxRecDepth 100000 in
theorem rowOf_any (p f : Nat) (w : World) (h : 3 ≤ p ∧ p ≤ 60) (hf : f < p) :
    Calls Try.prog 33 #[.int .i64 p, .int .i64 f] w fun e w' => e = .returned (.agg (rowV p f p)) ∧ Below w.heap.size w w' := by
  obtain ⟨h1, h2⟩ := h
  go_enter Try.func33, Try.ntmps33
  go_wp2
  go_loopw [8] (fun i wr => ∃ k : Nat, k ≤ p ∧ i = .int .i64 k ∧ wr = (w.alloc (.cells (rowV 0 0 0) 45)).alloc (.cells (rowV p f k) 45)) (fun i _ => p - (intOf i).toNat)
  case atStart => exact ⟨0, by omega, rfl, rfl⟩
  case round =>
    obtain ⟨k, hk, rfl, rfl⟩ := hrel
    by_cases hlt : k < p
    · obtain ⟨m1, m2⟩ := mul_bd60 (a := k) (b := f) (by omega) (by omega)
      have HS := Lib.hid (rowV_set p f k (by omega))
      have HZ := Lib.hid (rowV_size p f k (by omega))
      have cc : ((w.alloc (.cells (rowV 0 0 0) 45)).alloc (.cells (rowV p f k) 45)).cell? ⟨w.heap.size + 1, k, none⟩ = some (.int .i64 0) := (cell_of_row _ _ _ _ _ (0, 0) (heap_alloc2_new w _ _)).trans (rowV_zero p f k (by omega))
      go_wp2
      go_roundw
      case rel => exact ⟨k + 1, by omega, by go_num, by rw [← HS.out]⟩
      case measure => simp [intOf]; omega
    · obtain rfl : k = p := by omega
      have HG := Lib.hid (heap_alloc2_new w (.cells (rowV 0 0 0) 45) (.cells (rowV k f k) 45))
      have HG0 := Lib.hid (heap_alloc2_old w (.cells (rowV 0 0 0) 45) (.cells (rowV k f k) 45))
      have HI : Hid ((Try.prog.info? 45).map (·.size) = some (rowV k f k).size) := Lib.hid (by rw [rowV_size k f k h2]; exact info_row)
      have HO : Hid ((rowV 0 0 0).size = (rowV k f k).size) := Lib.hid (by rw [rowV_size k f k h2, rowV_size 0 0 0 (by omega)])
      have HA := Lib.hid (rowV_one k f k)
      have HR := Lib.hid (setRow_heap ((w.alloc (.cells (rowV 0 0 0) 45)).alloc (.cells (rowV k f k) 45)) w.heap.size _ (rowV k f k) _ _ HG0.out)
      have HB := Lib.hid (below_setRow (B := w.heap.size) (g := w.heap.size) (w0 := w) (w := (w.alloc (.cells (rowV 0 0 0) 45)).alloc (.cells (rowV k f k) 45)) (by go_grown) (Nat.le_refl _) (rowV k f k))
      go_wp2_with (first
        | (with_reducible refine wpList_load_row rfl 45 (.tmp 5) rfl (w.heap.size + 1) rfl 45 (rowV k f k) (0, 0) (.array 60 3) HG.out Try.underlying45 rfl HI.out ?_)
        | (with_reducible refine wpList_store_row rfl 45 (.tmp 4) (.tmp 19) rfl w.heap.size (rowV k f k) rfl rfl 45 (rowV 0 0 0) HG0.out HI.out HO.out HA.out ?_))
      exact bodyPost_ret (results_cell_row (P := Try.prog) (fn := Try.f33) (p := 4) (ty := 45) rfl _ _ w.heap.size _ _ _ (.array 60 3) rfl HR.out Try.underlying45 rfl HI.out) rfl ⟨rfl, HB.out⟩

/-- A row lies in block g. -/
def RowAt (w : World) (g p f : Nat) : Prop := w.heap[g]? = some (.cells (rowV p f p) 45 (0, 0))

theorem RowAt.cell {w : World} {g p f : Nat} (h : RowAt w g p f) (q : Nat) (hq : q < p) : w.cell? ⟨g, q, none⟩ = some (.int .i64 ((q * f % p : Nat) : Int)) :=
  (cell_of_row w g q _ _ (0, 0) h).trans (rowV_get p f p q hq)

theorem RowAt.frozen {w : World} {g p f : Nat} (h : RowAt w g p f) (q : Nat) : w.frozen? ⟨g, q, none⟩ = false := frozen_of_row w g q _ _ h

theorem RowAt.lt {w : World} {g p f : Nat} (h : RowAt w g p f) : g < w.heap.size := by
  unfold RowAt at h
  exact (Array.getElem?_eq_some_iff.1 h).1

theorem RowAt.keep {w w' : World} {g p f : Nat} (h : RowAt w g p f) (hb : Below w.heap.size w w') : RowAt w' g p f :=
  (hb.block g h.lt).trans h

theorem RowAt.below {w w' : World} {B g p f : Nat} (h : RowAt w g p f) (hb : Below B w w') (hg : g < B) : RowAt w' g p f :=
  (hb.block g hg).trans h

theorem RowAt.new (w : World) (p f : Nat) : RowAt (w.alloc (.cells (rowV p f p) 45)) w.heap.size p f := heap_alloc_new w _

theorem info_rowV (p f : Nat) (h : p ≤ 60) : (Try.prog.info? 45).map (·.size) = some (rowV p f p).size := by rw [rowV_size p f p h]; exact info_row

end Go.Proofs.Ytincoaebdmikbab
