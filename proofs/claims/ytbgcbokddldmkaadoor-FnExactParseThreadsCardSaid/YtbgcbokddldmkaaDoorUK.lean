/- Arguments that are slices of threads: what they hold, and what the laws read of them. -/
import Derived.Test.YtbgcbokddldmkaaDoorUC
import Derived.Test.YtbgcbokddldmkaaDoorUV
import Derived.Test.YtbgcbokddldmkaaDoorBA
import Derived.Deep.SlicePairs
import Derived.Deep.RegionHeld3
namespace Go.Proofs.YtbgcbokddldmkaaDoor
open Go.RowKit Go.ChangeShapes Go.WideShapes

/-- The slice v, which came in, holds the pairs xs. -/
def ArgP (w : World) (v : Value) (xs : List (Int × Int)) : Prop :=
  ∃ (a0 : Option Addr) (cap : Nat) (a : Addr), v = .slice a0 xs.length cap ∧ (0 < xs.length → a0 = some a) ∧ xs.length ≤ maxLen ∧
    ∀ i, i < xs.length → w.cell? (a.add (i * 2)) = some (.int .i64 (xs.getD i (0, 0)).1) ∧ w.cell? (a.add (i * 2 + 1)) = some (.int .i64 (xs.getD i (0, 0)).2)

theorem ArgP.later {w w' : World} {v : Value} {xs : List (Int × Int)} (h : ArgP w v xs) (hb : Below w.heap.size w w') : ArgP w' v xs := by
  obtain ⟨a0, cap, a, hv, ha, hm, hc⟩ := h
  exact ⟨a0, cap, a, hv, ha, hm, fun i hi => ⟨(hb.cell (World.block_lt_of_cell? w _ (hc i hi).1)).trans (hc i hi).1, (hb.cell (World.block_lt_of_cell? w _ (hc i hi).2)).trans (hc i hi).2⟩⟩

theorem argP_of {H : Type} {enc : TypeId × Value → H} {P : Program} {w : World} {base b0 : Nat} {spare : Nat → Bool} {held : Bool} {r : Reach} {t e : TypeId} {f0 f1 : Field} {v : Value} {d : DataW H} {p : List MemPlace}
    (ht : P.underlying t = some (.slice e)) (he : P.underlying e = some (.struct #[f0, f1])) (ce : P.cellsOf e = 2) (o0 : f0.offset = 0) (o1 : f1.offset = 1) (c0 : P.cellsOf f0.type = 1) (c1 : P.cellsOf f1.type = 1)
    (i0 : P.underlying f0.type = some (.int .i64)) (i1 : P.underlying f1.type = some (.int .i64))
    (hv : Value.okWide P w r b0 t v) (h : DataW.Trod enc P w base spare held t v d p) : ∃ xs, ArgP w v xs := by
  obtain ⟨a, len, cap, rfl⟩ := okWide_slice ht hv
  obtain ⟨fuel, hf⟩ := h
  rcases Go.Deep.open_slice_pairs ht he ce o0 o1 c0 c1 hf with ⟨hcs, _⟩ | ⟨a', len', cap', m, n, V0, V1, D0, D1, P0, P1, hcs, hb, hl, hm, hmm, hx, hi⟩
  · simp [Value.cells] at hcs
    obtain ⟨rfl, rfl, rfl⟩ := hcs
    exact ⟨[], none, 0, ⟨0, 0, none⟩, rfl, by simp, by simp, by simp⟩
  · simp [Value.cells] at hcs
    obtain ⟨rfl, rfl, rfl⟩ := hcs
    refine ⟨(List.range len).map fun i => (intOf (V0 i), intOf (V1 i)), some a', cap, a', by simp, fun _ => rfl, by simp; omega, fun i h => ?_⟩
    have hlen : i < len := by simpa using h
    have him : i < m := by rw [hmm]; split <;> omega
    obtain ⟨h0, h1, t0, t1⟩ := hi i him
    obtain ⟨x, ex, _, _⟩ := DataW.trod_int i0 t0
    obtain ⟨y, ey, _, _⟩ := DataW.trod_int i1 t1
    simp at ex ey
    rw [h0, h1, ex, ey]
    simp [List.getD, List.getElem?_map, List.getElem?_range hlen, ex, ey, intOf]

theorem info_thread : (Tryd.prog.info? 110).map (fun i => (i.zero, i.size, i.bytes)) = some (some (.agg #[.int .i64 0, .int .i64 0]), 2, 16) := by kernel_rfl

theorem range_getD {α : Type} (xs : List α) (z : α) : (List.range xs.length).map (fun i => xs.getD i z) = xs := by
  refine List.ext_getElem? fun i => ?_
  rw [List.getElem?_map]
  by_cases h : i < xs.length
  · rw [List.getElem?_range h]
    simp [List.getD, List.getElem?_eq_getElem h]
  · rw [List.getElem?_eq_none (by simp; omega), List.getElem?_eq_none (by omega)]
    rfl

end Go.Proofs.YtbgcbokddldmkaaDoor
