/- Arguments that are slices of threads: what they hold, and what the laws read of them. -/
import Derived.Test.YtnldnjgnpdicnaaUC
import Derived.Test.YtnldnjgnpdicnaaUV
import Derived.Test.YtnldnjgnpdicnaaBA
import Derived.Deep.SlicePairs
import Derived.Deep.RegionHeld3
namespace Go.Proofs.Ytnldnjgnpdicnaa
open Go.RowKit Go.ChangeShapes Go.WideShapes

/-- The slice v, which came in, holds the pairs xs. -/
def ArgP (w : World) (v : Value) (xs : List (Int × Int)) : Prop :=
  ∃ (a0 : Option Addr) (cap : Nat) (a : Addr), v = .slice a0 xs.length cap ∧ (0 < xs.length → a0 = some a) ∧ xs.length ≤ maxLen ∧
    ∀ i, i < xs.length → w.cell? (a.add (i * 2)) = some (.int .i64 (xs.getD i (0, 0)).1) ∧ w.cell? (a.add (i * 2 + 1)) = some (.int .i64 (xs.getD i (0, 0)).2)

theorem ArgP.later {w w' : World} {v : Value} {xs : List (Int × Int)} (h : ArgP w v xs) (hb : Below w.heap.size w w') : ArgP w' v xs := by
  obtain ⟨a0, cap, a, hv, ha, hm, hc⟩ := h
  exact ⟨a0, cap, a, hv, ha, hm, fun i hi => ⟨(hb.cell (World.block_lt_of_cell? w _ (hc i hi).1)).trans (hc i hi).1, (hb.cell (World.block_lt_of_cell? w _ (hc i hi).2)).trans (hc i hi).2⟩⟩

theorem argP_of {H : Type} {enc : TypeId × Value → H} {P : Program} {w : World} {base b0 : Nat} {spare : Nat → Bool} {held : Bool} {r : Reach} {t e : TypeId} {f0 f1 : Field} {v : Value} {d : DataW H} {p : List MemPlace}
    (ht : P.underlying t = some (.slice e)) (he : P.underlying e = some (.struct #[f0, f1])) (ce : P.cellsOf e = 2) (o0 : f0.offset = 0) (o1 : f1.offset = 1) (c0 : P.cellsOf f0.type = 1) (c1 : P.cellsOf f1.type = 1)
    (i0 : P.underlying f0.type = some (.int .i64)) (i1 : P.underlying f1.type = some (.int .i64))
    (hv : Value.okWide P w r b0 t v) (h : DataW.Trod enc P w base spare held t v d p) : ∃ xs, ArgP w v xs := by
  obtain ⟨a, len, cap, rfl⟩ := okWide_slice ht hv
  obtain ⟨fuel, hf⟩ := h
  rcases Go.Deep.open_slice_pairs ht he ce o0 o1 c0 c1 hf with ⟨hcs, _⟩ | ⟨a', len', cap', m, n, V0, V1, D0, D1, P0, P1, hcs, hb, hl, hm, hmm, hx, hi⟩
  · simp [Value.cells] at hcs
    obtain ⟨rfl, rfl, rfl⟩ := hcs
    exact ⟨[], none, 0, ⟨0, 0, none⟩, rfl, by simp, by simp, by simp⟩
  · simp [Value.cells] at hcs
    obtain ⟨rfl, rfl, rfl⟩ := hcs
    refine ⟨(List.range len).map fun i => (intOf (V0 i), intOf (V1 i)), some a', cap, a', by simp, fun _ => rfl, by simp; omega, fun i h => ?_⟩
    have hlen : i < len := by simpa using h
    have him : i < m := by rw [hmm]; split <;> omega
    obtain ⟨h0, h1, t0, t1⟩ := hi i him
    obtain ⟨x, ex, _, _⟩ := DataW.trod_int i0 t0
    obtain ⟨y, ey, _, _⟩ := DataW.trod_int i1 t1
    simp at ex ey
    rw [h0, h1, ex, ey]
    simp [List.getD, List.getElem?_map, List.getElem?_range hlen, ex, ey, intOf]

/-! how many elements a law takes -/
set_option maxHeartbeats 400000 in
theorem szThreadS_yes (a0 : Option Addr) (n cap : Nat) (w : World) (h : n ≤ 1048576) :
    Calls Try.prog 13 #[.slice a0 n cap, .int .i64 1048576] w fun e w' => e = .returned (.int .i64 (1048576 - (n : Int))) ∧ w = w' := by
  go_enter Try.func13, Try.ntmps13
  go_wp2
  go_ret
  exact ⟨rfl, rfl⟩

set_option maxHeartbeats 400000 in
theorem szThreadS_no (a0 : Option Addr) (n cap : Nat) (w : World) (h : 1048576 < n) (hm : n ≤ maxLen) :
    Calls Try.prog 13 #[.slice a0 n cap, .int .i64 1048576] w fun e w' => e = .returned (.int .i64 (-1)) ∧ w = w' := by
  unfold maxLen at hm
  go_enter Try.func13, Try.ntmps13
  go_wp2
  go_ret
  exact ⟨rfl, rfl⟩

theorem info_thread : (Try.prog.info? 83).map (fun i => (i.zero, i.size, i.bytes)) = some (some (.agg #[.int .i64 0, .int .i64 0]), 2, 16) := by kernel_rfl

theorem range_getD {α : Type} (xs : List α) (z : α) : (List.range xs.length).map (fun i => xs.getD i z) = xs := by
  refine List.ext_getElem? fun i => ?_
  rw [List.getElem?_map]
  by_cases h : i < xs.length
  · rw [List.getElem?_range h]
    simp [List.getD, List.getElem?_eq_getElem h]
  · rw [List.getElem?_eq_none (by simp; omega), List.getElem?_eq_none (by omega)]
    rfl

set_option maxHeartbeats 400000 in
theorem toThreadS_any (v : Value) (xs : List (Int × Int)) (w : World) (h : ArgP w v xs) (hn : xs.length ≤ 1048576) :
    Calls Try.prog 15 #[v] w fun e w' => ∃ v', e = .returned v' ∧ PairsIn 83 w' w.heap.size w'.heap.size v' xs ∧ Below w.heap.size w w' := by
  obtain ⟨a0, cap, a, rfl, ha, hm, hc⟩ := h
  have HC := Lib.hid hc
  have HA := Lib.hid ha
  have HE := Lib.hid (range_getD xs (0, 0))
  clear ha hc
  obtain ⟨n, hnn⟩ : ∃ n, n = xs.length := ⟨_, rfl⟩
  rw [← hnn] at HC HA HE hm hn ⊢
  have hmk := make_pairs (P := Try.prog) Try.underlying36 info_thread n (by omega)
  clear hnn
  go_enter Try.func15, Try.ntmps15
  go_wp2
  go_loopw [4] (fun i wr => ∃ k : Nat, k ≤ n ∧ i = .int .i64 k ∧ Pairs wr w.heap.size 83 (.slice (some ⟨w.heap.size, 0, none⟩) n n) (fillG (fun i => xs.getD i (0, 0)) (0, 0) n k) ∧ Below w.heap.size w wr ∧ w.heap.size < wr.heap.size) (fun i _ => n - (intOf i).toNat)
  case atStart => exact ⟨0, by omega, rfl, by rw [fillG_zero]; exact Pairs.made w w.heap.size _ n (Nat.le_refl _) (by omega), by go_grown, by simp⟩
  case round =>
    obtain ⟨k, hk, rfl, hI, hB, hz⟩ := hrel
    by_cases hlt : k < n
    · obtain rfl := HA.out (by omega)
      obtain ⟨x, y, hxy⟩ : ∃ x y, xs.getD k (0, 0) = (x, y) := ⟨_, _, rfl⟩
      have hc0 := HC.out k hlt
      rw [hxy] at hc0
      have cx : wr.cell? (a.add (k * 2)) = some (.int .i64 x) := (hB.cell (World.block_lt_of_cell? w _ hc0.1)).trans hc0.1
      have cy : wr.cell? ⟨(a.add (k * 2)).block, (a.add (k * 2)).off + 1, none⟩ = some (.int .i64 y) := by
        show wr.cell? ((a.add (k * 2)).add 1) = _
        rw [Go.Deep.add_add]
        exact (hB.cell (World.block_lt_of_cell? w _ hc0.2)).trans hc0.2
      have HF := Lib.hid (fillG_set (fun i => xs.getD i (0, 0)) (0, 0) n k hlt)
      have HI := Lib.hid hI
      have HXY := Lib.hid hxy
      clear hc0 hxy hI
      go_wp2_with fail
      refine (toThread_any _ _ _).mono ?_
      rintro e w2 ⟨rfl, hb2⟩
      have hz2 := hb2.size
      have hI2 := HI.out.later hb2
      have hB2 := hB.trans (hb2.mono (by omega))
      have HS := Lib.hid (hI2.stored k (by rw [fillG_length _ _ _ _ hk]; omega) x y)
      have d0 := hI2.cell0 k (by rw [fillG_length _ _ _ _ hk]; omega)
      have d1 := hI2.cell1 k (by rw [fillG_length _ _ _ _ hk]; omega)
      have f0 := hI2.frozenAt (k * 2)
      have f1 := hI2.frozenAt (k * 2 + 1)
      have HB3 := Lib.hid (hI2.below hB2 (by omega) HS.out.2)
      clear hI2 hb2 cx cy hB hB2
      go_wp2
      go_roundw
      case rel => exact ⟨k + 1, by omega, by go_num, by rw [← HF.out, HXY.out]; exact HS.out.1, HB3.out, by simp; omega⟩
      case measure => simp [intOf]; omega
    · obtain rfl : k = n := by omega
      rw [fillG_all, HE.out] at hI
      go_wp2
      go_ret
      exact ⟨_, rfl, hI.inn, hB⟩

end Go.Proofs.Ytnldnjgnpdicnaa
