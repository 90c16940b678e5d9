/- Texts named anew and told from a sign on, by the program. -/
import Derived.Test.YtpcebcgmbngababDoorJO
import Derived.Test.YtpcebcgmbngababDoorJG
import Derived.Test.YtpcebcgmbngababDoorJ7
import Derived.Lib.ConvBytes
import Derived.Lib.AppendStr
import Derived.Laws.IdiomCopy
import Derived.Deep.RegionHeld3
namespace Go.Proofs.YtpcebcgmbngababDoor
open Go.RowKit
set_option linter.unusedVariables false

theorem grown_set (w : World) (a : Addr) (u : Value) : w.grownBy (w.setCell a u) (some a.block) :=
  ⟨rfl, rfl, rfl, by simp, fun k _ hk => heap_setCell_other w a k u (fun e => hk (by rw [e]))⟩

/-- The cells of block g hold the bytes L, and all n of them may be written. -/
def ByW (w : World) (g n : Nat) (L : List UInt8) : Prop :=
  g < w.heap.size ∧ L.length ≤ n ∧ (∀ i, i < L.length → w.cell? ⟨g, i, none⟩ = some (.int .u8 (L.getD i 0).toNat)) ∧ ∀ i, i < n → (w.cell? ⟨g, i, none⟩).isSome = true ∧ w.frozen? ⟨g, i, none⟩ = false

theorem ByW.keep {w w' : World} {g n : Nat} {L : List UInt8} (h : ByW w g n L) (hb : Below w.heap.size w w') : ByW w' g n L := by
  have hk := hb.block g h.1
  refine ⟨by have := hb.size; have := h.1; omega, h.2.1, fun i hi => ?_, fun i hi => ?_⟩
  · rw [World.cell?_of_block (a := ⟨g, i, none⟩) hk]; exact h.2.2.1 i hi
  · rw [World.cell?_of_block (a := ⟨g, i, none⟩) hk, World.frozen?_of_block (a := ⟨g, i, none⟩) hk]; exact h.2.2.2 i hi

theorem ByW.grown {w w' : World} {g n : Nat} {L : List UInt8} {row : Option Nat} (h : ByW w g n L) (hg : w.grownBy w' row) (hne : row ≠ some g) : ByW w' g n L := by
  have hk := hg.block g h.1 (fun e => hne e.symm)
  refine ⟨by have := hg.size; have := h.1; omega, h.2.1, fun i hi => ?_, fun i hi => ?_⟩
  · rw [World.cell?_of_block (a := ⟨g, i, none⟩) hk]; exact h.2.2.1 i hi
  · rw [World.cell?_of_block (a := ⟨g, i, none⟩) hk, World.frozen?_of_block (a := ⟨g, i, none⟩) hk]; exact h.2.2.2 i hi

theorem ByW.stored {w : World} {g n : Nat} {L : List UInt8} (h : ByW w g n L) (j : Nat) (c : UInt8) (hj : j < L.length) : ByW (w.setCell ⟨g, j, none⟩ (.int .u8 c.toNat)) g n (L.set j c) := by
  have hn := h.2.1
  refine ⟨by simp; exact h.1, by rw [List.length_set]; exact hn, fun i hi => ?_, fun i hi => ?_⟩
  · rw [List.length_set] at hi
    rw [getD_setD L c 0 i j hj]
    by_cases e : i = j
    · subst e
      rw [if_pos rfl]
      exact World.cell?_setCell_same' _ _ _ (h.2.2.2 i (by omega)).1
    · rw [if_neg e, World.cell?_setCell_other _ _ _ _ (by first | (simp; done) | (simp; omega))]
      exact h.2.2.1 i hi
  · obtain ⟨h1, h2⟩ := h.2.2.2 i hi
    rw [World.frozen?_setCell]
    refine ⟨?_, h2⟩
    by_cases e : i = j
    · subst e
      rw [World.cell?_setCell_same' _ _ _ h1]; rfl
    · rw [World.cell?_setCell_other _ _ _ _ (by first | (simp; done) | (simp; omega))]
      exact h1

theorem ByO.beside {w : World} {B g j : Nat} {v : Value} {bs : List UInt8} (h : ByO w B v bs) (hg : g < B) (u : Value) : ByO (w.setCell ⟨g, j, none⟩ u) B v bs :=
  h.kept (grown_set w _ u) (.inr fun e => by have := (h.own g e).1; omega)

/-- '[]byte(text)' lays the bytes into a new block. -/
theorem bytes_made (t : ByteArray) (hts : t.size ≤ 1048576) : ∃ (cap : World → Nat) (W1 : World → World), (∀ w, (convert 9 39 (.string t)).run Tryd.prog w = .ok (.slice (some ⟨w.heap.size, 0, none⟩) t.size (cap w)) (W1 w)) ∧
    ∀ w, ByW (W1 w) w.heap.size (cap w) t.data.toList ∧ Below w.heap.size w (W1 w) ∧ (W1 w).heap.size = w.heap.size + 1 ∧ t.size ≤ cap w ∧ cap w ≤ maxLen := by
  refine ⟨fun w => grownCap w t.size 0 5, fun w => Lib.bytesWorld w 5 t, fun w => Lib.run_convert_string_bytes w 9 39 5 t Tryd.underlying9 Tryd.underlying39 Tryd.underlying5, fun w => ?_⟩
  simp only
  have hge := grownCap_ge w t.size 0 5
  have hle := grownCap_le_maxLen w t.size 0 5 (by unfold maxLen; omega)
  have hsz := Lib.bytesWorld_size w 5 t
  have hnew := Lib.bytesWorld_at_new w 5 t
  have hcs : (Lib.bytesCells w 5 t).size = grownCap w t.size 0 5 := by
    unfold Lib.bytesCells
    have hds : t.data.size = t.size := rfl
    rw [Array.size_append, Array.size_map, Array.size_replicate, hds]
    omega
  have hlen := tx_len t
  refine ⟨⟨by omega, by omega, fun i hi => ?_, fun i hi => ⟨?_, ?_⟩⟩, ⟨rfl, rfl, rfl, by omega, fun k hk => Lib.bytesWorld_at_old w 5 t k hk⟩, hsz, hge, hle⟩
  · exact Lib.bytesWorld_cell w 5 t i (by omega)
  · simp only [World.cell?, hnew]
    simp [hcs, hi]
  · simp only [World.frozen?, hnew]
    simp [hcs]
    omega

/-- 'string(bytes)'. -/
theorem bytes_back {w : World} {g n : Nat} {L : List UInt8} (h : ByW w g n L) (m cap : Nat) (hm : m = L.length) : (convert 39 9 (.slice (some ⟨g, 0, none⟩) m cap)).run Tryd.prog w = .ok (.string (txL L)) w := by
  subst hm
  have hs : strOfNums (L.map fun b => (b.toNat : Int)) = txL L := by
    unfold strOfNums txL
    congr 2
    rw [List.map_map]
    conv => rhs; rw [← List.map_id L]
    exact List.map_congr_left fun b _ => by simp
  have := run_convert_bytes_arg (P := Tryd.prog) w 39 5 Tryd.underlying39 Tryd.underlying5 g 0 L.length cap (L.map fun b => (b.toNat : Int)) (by simp) (fun i hi => by rw [Nat.zero_add, h.2.2.1 i hi]; simp [List.getD, List.getElem?_eq_getElem hi]) 9 Tryd.underlying9
  rw [hs] at this
  exact this

theorem strCells_get (s : ByteArray) (j : Nat) (h : j < s.size) : (Lib.strCells s)[j]? = some (.int .u8 (s.data.toList.getD j 0).toNat) := by
  have hl := tx_len s
  unfold Lib.strCells
  rw [List.getElem?_map, List.getElem?_eq_getElem (by omega)]
  simp [List.getD, List.getElem?_eq_getElem (show j < s.data.toList.length by omega)]

theorem getD_apps (l m : List UInt8) (i : Nat) : (l ++ m).getD i 0 = if i < l.length then l.getD i 0 else m.getD (i - l.length) 0 := by
  rw [List.getD, List.getElem?_append]
  split <;> rfl

/-- 'append(bytes, text...)'. -/
theorem run_append_text {w : World} {g n cap : Nat} {L : List UInt8} (h : ByW w g cap L) (hn : n = L.length) (hcap : cap ≤ maxLen) (y : ByteArray) (hy : n + y.size ≤ 1048576) (ty : TypeId) :
    ∃ g' cap' w', (Builtin.append_ #[39, 9] ty #[.slice (some ⟨g, 0, none⟩) n cap, .string y]).run Tryd.prog w = .ok (.slice (some ⟨g', 0, none⟩) (n + y.size) cap') w' ∧ ByW w' g' cap' (L ++ y.data.toList) ∧ w.grownBy w' (some g) := by
  subst hn
  obtain ⟨i, hi, hz0, hz1, hz2⟩ := info_parts info_byteJ
  have hly := tx_len y
  have hgl := h.1
  by_cases hr : L.length + y.size ≤ cap
  · have hf := Lib.run_firstCells_string (P := Tryd.prog) w 1 y
    have hst := run_storeCells_cells (P := Tryd.prog) g L.length (Lib.strCells y) 0 w (fun j hj => by
        rw [Lib.strCells_length] at hj
        exact (h.2.2.2 _ (by omega)).1) (fun j hj => by
        rw [Lib.strCells_length] at hj
        exact (h.2.2.2 _ (by omega)).2) (Lib.strCells_oneCell y)
    simp only [Nat.add_zero] at hst
    refine ⟨g, cap, w.setCells g L.length (Lib.strCells y), ?_, ⟨?_, ?_, ?_, ?_⟩, ?_⟩
    · simp [Builtin.append_, run_underlying Tryd.underlying39, run_underlying Tryd.underlying9, sizeOf, typeInfo, hi, hz1, Builtin.lenOf, hr, hf, Addr.add_lit, hst]
    · have : ∀ (vs : List Value) (o : Nat) (w : World), (w.setCells g o vs).heap.size = w.heap.size := by
        intro vs
        induction vs with
        | nil => intro o w; rfl
        | cons v r ih => intro o w; rw [World.setCells, ih]; simp
      rw [this]; exact hgl
    · rw [List.length_append]; omega
    · intro j hj
      rw [List.length_append] at hj
      rw [getD_apps]
      by_cases e : j < L.length
      · rw [if_pos e, World.cell?_setCells_out g _ _ _ _ (fun _ _ => .inl e)]
        exact h.2.2.1 j e
      · rw [if_neg e]
        have hjl : j - L.length < (Lib.strCells y).length := by rw [Lib.strCells_length]; omega
        have hin := World.cell?_setCells_in g (Lib.strCells y) L.length w (fun q hq => by
          rw [Lib.strCells_length] at hq
          exact (h.2.2.2 _ (by omega)).1) (j - L.length) hjl
        rw [show L.length + (j - L.length) = j by omega] at hin
        rw [hin, ← List.getElem?_eq_getElem hjl, strCells_get y _ (by omega)]
    · intro j hj
      rw [World.frozen?_setCells]
      refine ⟨?_, (h.2.2.2 j hj).2⟩
      by_cases e : j < L.length ∨ L.length + (Lib.strCells y).length ≤ j
      · rw [World.cell?_setCells_out g _ _ _ _ (fun _ _ => e)]
        exact (h.2.2.2 j hj).1
      · have hjl : j - L.length < (Lib.strCells y).length := by omega
        have hin := World.cell?_setCells_in g (Lib.strCells y) L.length w (fun q hq => by
          rw [Lib.strCells_length] at hq
          exact (h.2.2.2 _ (by omega)).1) (j - L.length) hjl
        rw [show L.length + (j - L.length) = j by omega] at hin
        rw [hin]; rfl
    · have : ∀ (vs : List Value) (o : Nat) (w : World), w.grownBy (w.setCells g o vs) (some g) := by
        intro vs
        induction vs with
        | nil => intro o w; exact grownBy_refl w _
        | cons v r ih => intro o w; rw [World.setCells]; exact grownBy_trans (grown_set w ⟨g, o, none⟩ v) (ih _ _)
      exact this _ _ _
  · have hr := Lib.run_append_grow_string (P := Tryd.prog) w 39 9 ty 5 i (.int .u8 0) Tryd.underlying39 Tryd.underlying9 hi hz0 ⟨g, 0, none⟩ L.length cap (L.map bV) (by rw [hz1]; simp) (fun j v hj => by
        have hjl : j < L.length := by
          rcases Nat.lt_or_ge j L.length with e | e
          · exact e
          · rw [List.getElem?_eq_none (by simpa using e)] at hj; cases hj
        rw [Addr.add_lit, Nat.zero_add, h.2.2.1 j hjl]
        rw [List.getElem?_map, List.getElem?_eq_getElem hjl] at hj
        simp [List.getD, List.getElem?_eq_getElem hjl, bV] at hj ⊢
        exact hj) y (by omega) (by omega) (by rw [hz2]; exact growslice_fits (by omega) (by omega))
    have hge := grownCap_ge w (L.length + y.size) cap 5
    refine ⟨_, _, _, hr, ?_, ⟨rfl, rfl, rfl, by simp, fun k hk _ => heap_alloc_old w.drew _ hk⟩⟩
    obtain ⟨c, hc⟩ : ∃ c, grownCap w (L.length + y.size) cap 5 = c := ⟨_, rfl⟩
    rw [hc] at hge ⊢
    obtain ⟨C, hC⟩ : ∃ C, (L.map bV).toArray ++ (Lib.strCells y).toArray ++ Builtin.zeroCells (Value.int .u8 0).cells (c - (L.length + y.size)) = C := ⟨_, rfl⟩
    rw [hC]
    have hnew : (w.drew.alloc (.cells C 5)).heap[w.heap.size]? = some (.cells C 5 (0, 0)) := heap_alloc_new w.drew _
    have hcs : C.size = c := by
      rw [← hC]
      simp [Lib.strCells_length, size_zeroCells, Value.cells]
      omega
    refine ⟨by simp, by rw [List.length_append]; omega, fun j hj => ?_, fun j hj => ⟨?_, ?_⟩⟩
    · rw [List.length_append] at hj
      rw [cell_of_row _ _ _ _ _ (0, 0) hnew, ← hC, getD_apps]
      by_cases e : j < L.length
      · rw [if_pos e, Array.getElem?_append_left (by simp; omega), Array.getElem?_append_left (by simpa using e)]
        simp [List.getElem?_eq_getElem e, List.getD, bV]
      · rw [if_neg e, Array.getElem?_append_left (by simp [Lib.strCells_length]; omega), Array.getElem?_append_right (by simp; omega)]
        rw [List.getElem?_toArray]
        simp only [List.size_toArray, List.length_map]
        exact strCells_get y _ (by omega)
    · rw [cell_of_row _ _ _ _ _ (0, 0) hnew]
      simp [hcs, hj]
    · exact frozen_of_row _ _ _ _ _ hnew

end Go.Proofs.YtpcebcgmbngababDoor
