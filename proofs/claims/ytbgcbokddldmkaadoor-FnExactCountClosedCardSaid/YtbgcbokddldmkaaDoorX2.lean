/- What the laws do with clues and puzzles. -/
import Derived.Test.YtbgcbokddldmkaaDoorRows
import Derived.Test.YtbgcbokddldmkaaDoorBA
import Derived.Deep.Strs
import Derived.Lib.SmallJoins
import Derived.Deep.RegionHeld3
namespace Go.Proofs.YtbgcbokddldmkaaDoor
open Go.RowKit Go.ChangeShapes Go.WideShapes
set_option linter.unusedVariables false

/-- The slice v, which came in, holds the triples xs. -/
def ArgT (w : World) (v : Value) (xs : List Tri) : Prop :=
  ∃ (a0 : Option Addr) (cap : Nat) (a : Addr), v = .slice a0 xs.length cap ∧ (0 < xs.length → a0 = some a) ∧ xs.length ≤ maxLen ∧
    ∀ i, i < xs.length → w.cell? (a.add (i * 3)) = some (.int .i64 (xs.getD i noT).1) ∧ w.cell? (a.add (i * 3 + 1)) = some (.int .i64 (xs.getD i noT).2.1) ∧ w.cell? (a.add (i * 3 + 2)) = some (.int .i64 (xs.getD i noT).2.2)

theorem ArgT.later {w w' : World} {v : Value} {xs : List Tri} (h : ArgT w v xs) (hb : Below w.heap.size w w') : ArgT w' v xs := by
  obtain ⟨a0, cap, a, hv, ha, hm, hc⟩ := h
  exact ⟨a0, cap, a, hv, ha, hm, fun i hi => ⟨(hb.cell (World.block_lt_of_cell? w _ (hc i hi).1)).trans (hc i hi).1, (hb.cell (World.block_lt_of_cell? w _ (hc i hi).2.1)).trans (hc i hi).2.1, (hb.cell (World.block_lt_of_cell? w _ (hc i hi).2.2)).trans (hc i hi).2.2⟩⟩

theorem argT_of {H : Type} {enc : TypeId × Value → H} {P : Program} {w : World} {base n : Nat} {spare : Nat → Bool} {held : Bool} {t e : TypeId} {f0 f1 f2 : Field} {v : Value} {y : DataW H × List MemPlace}
    (ht : P.underlying t = some (.slice e)) (he : P.underlying e = some (.struct #[f0, f1, f2])) (ce : P.cellsOf e = 3) (o0 : f0.offset = 0) (o1 : f1.offset = 1) (o2 : f2.offset = 2) (c0 : P.cellsOf f0.type = 1) (c1 : P.cellsOf f1.type = 1) (c2 : P.cellsOf f2.type = 1)
    (i0 : P.underlying f0.type = some (.int .i64)) (i1 : P.underlying f1.type = some (.int .i64)) (i2 : P.underlying f2.type = some (.int .i64))
    (h : DataW.trod enc P w base spare held n t [v] = some y) : ∃ xs, ArgT w v xs := by
  rcases Go.Deep.open_slice ht h with ⟨hcs, _⟩ | ⟨a, len, cap, m, k, D, Pl, hcs, hb, hl, hm, hmm, _, hx⟩
  · simp at hcs
    subst hcs
    exact ⟨[], none, 0, ⟨0, 0, none⟩, rfl, by simp, by simp, by simp⟩
  · simp at hcs
    subst hcs
    have hlm : len ≤ m := by rw [hmm]; split <;> omega
    have each : ∀ i, i < len → ∃ q : Tri, w.cell? (a.add (i * 3)) = some (.int .i64 q.1) ∧ w.cell? (a.add (i * 3 + 1)) = some (.int .i64 q.2.1) ∧ w.cell? (a.add (i * 3 + 2)) = some (.int .i64 q.2.2) := by
      intro i hi
      obtain ⟨cs', h1, h2⟩ := hx i (by omega)
      rw [ce] at h1
      obtain ⟨_, hlen, hcell⟩ := World.cells?_some h1
      obtain ⟨y0, y1, y2, k', _, _, g0, g1, g2⟩ := Go.Deep.trod_struct3 he h2
      match cs', hlen with
      | [v0, v1, v2], _ =>
        simp [o0, o1, o2, c0, c1, c2] at g0 g1 g2
        have e0 := hcell 0 (by omega)
        have e1 := hcell 1 (by omega)
        have e2 := hcell 2 (by omega)
        rw [Go.Deep.add_add] at e0 e1 e2
        obtain ⟨x0, ex0, _, _⟩ := DataW.trod_int i0 g0
        obtain ⟨x1, ex1, _, _⟩ := DataW.trod_int i1 g1
        obtain ⟨x2, ex2, _, _⟩ := DataW.trod_int i2 g2
        simp at ex0 ex1 ex2
        subst ex0 ex1 ex2
        exact ⟨(x0, x1, x2), by simpa using e0, by simpa using e1, by simpa using e2⟩
    obtain ⟨q, hq⟩ := Go.Deep.choose_lt each
    refine ⟨(List.range len).map q, some a, cap, a, by simp, fun _ => rfl, by simp; omega, fun i h => ?_⟩
    have hi : i < len := by simpa using h
    have hg : ((List.range len).map q).getD i noT = q i := by simp [List.getD, List.getElem?_map, List.getElem?_range hi]
    rw [hg]
    exact hq i hi

/-- A struct of one field of one cell, as an argument. -/
theorem open_puzzle {H : Type} {enc : TypeId × Value → H} {P : Program} {w : World} {base b0 : Nat} {spare : Nat → Bool} {held : Bool} {r : Reach} {t : TypeId} {f0 : Field} {v : Value} {d : DataW H} {p : List MemPlace}
    (hs : P.underlying t = some (.struct #[f0])) (hC : P.cellsOf t = 1) (o0 : f0.offset = 0) (c0 : P.cellsOf f0.type = 1) (hv : Value.okWide P w r b0 t v) (h : DataW.Trod enc P w base spare held t v d p) :
    ∃ (u : Value), v = .agg #[u] ∧ ∃ (n : Nat) (y : DataW H × List MemPlace), DataW.trod enc P w base spare held n f0.type [u] = some y := by
  obtain ⟨cs, rfl, hsz⟩ := okWide_struct hs hv
  obtain ⟨fuel, hf⟩ := h
  obtain ⟨xs, n, _, _, _, hxl, hg⟩ := DataW.trod_struct hs hf
  have g0 := hg 0 f0 rfl
  match cs, hsz.trans hC with
  | ⟨[u]⟩, _ =>
    match xs, hxl with
    | [y], _ => exact ⟨u, rfl, n, y, by simpa [Value.cells, o0, c0] using g0⟩

theorem info_clue : (Tryd.prog.info? 44).map (fun i => (i.zero, i.size, i.bytes)) = some (some (.agg #[.int .i64 0, .int .i64 0, .int .i64 0]), 3, 24) := by kernel_rfl

set_option maxHeartbeats 400000 in
theorem toClue_any (a b c : Int) (w : World) :
    Calls Tryd.prog 27 #[.agg #[.int .i64 a, .int .i64 b, .int .i64 c]] w fun e w' => e = .returned (.agg #[.int .i64 a, .int .i64 b, .int .i64 c]) ∧ Below w.heap.size w w' := by
  go_enter Tryd.func27, Tryd.ntmps27
  go_wp2
  exact bodyPost_ret (v := .agg #[.int .i64 a, .int .i64 b, .int .i64 c]) (by simp [results, Tryd.results27, go_sem]) rfl ⟨rfl, by go_grown⟩

set_option maxHeartbeats 400000 in
theorem szClueS_yes (a0 : Option Addr) (n cap : Nat) (w : World) (h : n ≤ 1048576) :
    Calls Tryd.prog 52 #[.slice a0 n cap, .int .i64 1048576] w fun e w' => e = .returned (.int .i64 (1048576 - (n : Int))) ∧ w = w' := by
  go_enter Tryd.func52, Tryd.ntmps52
  go_wp2
  go_ret
  exact ⟨rfl, rfl⟩

set_option maxHeartbeats 400000 in
theorem szClueS_no (a0 : Option Addr) (n cap : Nat) (w : World) (h : 1048576 < n) (hm : n ≤ maxLen) :
    Calls Tryd.prog 52 #[.slice a0 n cap, .int .i64 1048576] w fun e w' => e = .returned (.int .i64 (-1)) ∧ w = w' := by
  unfold maxLen at hm
  go_enter Tryd.func52, Tryd.ntmps52
  go_wp2
  go_ret
  exact ⟨rfl, rfl⟩

set_option maxHeartbeats 400000 in
theorem szPuzzle_yes (a0 : Option Addr) (n cap : Nat) (w : World) (h : n ≤ 1048576) :
    Calls Tryd.prog 14 #[.agg #[.slice a0 n cap], .int .i64 1048576] w fun e w' => e = .returned (.int .i64 (1048576 - (n : Int))) ∧ Below w.heap.size w w' := by
  go_enter Tryd.func14, Tryd.ntmps14
  go_wp2_with (first | (go_at_call 52; (with_reducible refine (szClueS_yes a0 n cap _ h).mono ?_); rintro e w1 ⟨rfl, rfl⟩))
  go_ret
  exact ⟨rfl, by go_grown⟩

set_option maxHeartbeats 400000 in
theorem szPuzzle_no (a0 : Option Addr) (n cap : Nat) (w : World) (h : 1048576 < n) (hm : n ≤ maxLen) :
    Calls Tryd.prog 14 #[.agg #[.slice a0 n cap], .int .i64 1048576] w fun e w' => e = .returned (.int .i64 (-1)) ∧ Below w.heap.size w w' := by
  go_enter Tryd.func14, Tryd.ntmps14
  go_wp2_with (first | (go_at_call 52; (with_reducible refine (szClueS_no a0 n cap _ h hm).mono ?_); rintro e w1 ⟨rfl, rfl⟩))
  go_ret
  exact ⟨rfl, by go_grown⟩

theorem frozenB {w w' : World} (h : Below w.heap.size w w') {b o : Nat} (hb : b < w.heap.size) (hf : w.frozen? ⟨b, o, none⟩ = false) : w'.frozen? ⟨b, o, none⟩ = false := by
  unfold World.frozen? at hf ⊢
  rw [h.block b hb]
  exact hf

theorem own_formT {w : World} {B : Nat} {e : TypeId} {k : Nat} {v : Value} {n : Nat} {vs : List Value} (h : w.ownsRow B e k v n vs) : ∃ a m c, v = .slice a m c := by
  rcases h.2 with ⟨hv, _⟩ | ⟨g, cap, cur, hv, _⟩
  · exact ⟨none, 0, 0, hv⟩
  · exact ⟨_, _, _, hv⟩

theorem setCell_other (w : World) (a : Addr) (v : Value) {k : Nat} (h : a.block ≠ k) : (w.setCell a v).heap[k]? = w.heap[k]? := by
  simp only [World.setCell, Array.getElem?_modify]
  rw [if_neg h]

theorem TripsIn.setC {e : TypeId} {w : World} {B T : Nat} {v : Value} {xs : List Tri} (h : TripsIn e w B T v xs) (p : Addr) (u : Value) (hp : p.block < B) : TripsIn e (w.setCell p u) B T v xs :=
  h.keep fun k hk _ => setCell_other w p u (by omega)

theorem _root_.Go.RowKit.Below.setC {B : Nat} {w w' : World} (h : Below B w w') (p : Addr) (u : Value) (hp : B ≤ p.block) : Below B w (w'.setCell p u) :=
  ⟨h.os, h.tape, h.output, by have := h.size; simpa using this, fun k hk => by rw [setCell_other w' p u (by omega)]; exact h.block k hk⟩

theorem rangeT_getD {α : Type} (xs : List α) (z : α) : (List.range xs.length).map (fun i => xs.getD i z) = xs := by
  refine List.ext_getElem? fun i => ?_
  rw [List.getElem?_map]
  by_cases h : i < xs.length
  · rw [List.getElem?_range h]
    simp [List.getD, List.getElem?_eq_getElem h]
  · rw [List.getElem?_eq_none (by simp; omega), List.getElem?_eq_none (by omega)]
    rfl

set_option maxHeartbeats 400000 in
theorem toClueS_any (v : Value) (xs : List Tri) (w : World) (h : ArgT w v xs) (hn : xs.length ≤ 1048576) :
    Calls Tryd.prog 56 #[v] w fun e w' => ∃ v', e = .returned v' ∧ TripsIn 44 w' w.heap.size w'.heap.size v' xs ∧ Below w.heap.size w w' := by
  obtain ⟨a0, cap, a, rfl, ha, hm, hc⟩ := h
  have HC := Lib.hid hc
  have HA := Lib.hid ha
  have HE := Lib.hid (rangeT_getD xs noT)
  clear ha hc
  obtain ⟨n, hnn⟩ : ∃ n, n = xs.length := ⟨_, rfl⟩
  rw [← hnn] at HC HA HE hm hn ⊢
  have hmk := make_trips (P := Tryd.prog) Tryd.underlying29 info_clue n (by omega)
  clear hnn
  go_enter Tryd.func56, Tryd.ntmps56
  go_wp2
  go_loopw [4] (fun i wr => ∃ k : Nat, k ≤ n ∧ i = .int .i64 k ∧ Trips wr w.heap.size 44 (.slice (some ⟨w.heap.size, 0, none⟩) n n) (fillG (fun i => xs.getD i noT) noT n k) ∧ Below w.heap.size w wr ∧ w.heap.size < wr.heap.size) (fun i _ => n - (intOf i).toNat)
  case atStart => exact ⟨0, by omega, rfl, by rw [fillG_zero]; exact Trips.made w w.heap.size _ n (Nat.le_refl _) (by omega), by go_grown, by simp⟩
  case round =>
    obtain ⟨k, hk, rfl, hI, hB, hz⟩ := hrel
    by_cases hlt : k < n
    · obtain rfl := HA.out (by omega)
      obtain ⟨x, y, z, hxy⟩ : ∃ x y z, xs.getD k noT = (x, y, z) := ⟨_, _, _, rfl⟩
      have hc0 := HC.out k hlt
      rw [hxy] at hc0
      have cx : wr.cell? (a.add (k * 3)) = some (.int .i64 x) := (hB.cell (World.block_lt_of_cell? w _ hc0.1)).trans hc0.1
      have cy : wr.cell? ⟨(a.add (k * 3)).block, (a.add (k * 3)).off + 1, none⟩ = some (.int .i64 y) := by
        show wr.cell? ((a.add (k * 3)).add 1) = _
        rw [Go.Deep.add_add]
        exact (hB.cell (World.block_lt_of_cell? w _ hc0.2.1)).trans hc0.2.1
      have cz : wr.cell? ⟨(a.add (k * 3)).block, (a.add (k * 3)).off + 2, none⟩ = some (.int .i64 z) := by
        show wr.cell? ((a.add (k * 3)).add 2) = _
        rw [Go.Deep.add_add]
        exact (hB.cell (World.block_lt_of_cell? w _ hc0.2.2)).trans hc0.2.2
      have HF := Lib.hid (fillG_set (fun i => xs.getD i noT) noT n k hlt)
      have HI := Lib.hid hI
      have HXY := Lib.hid hxy
      clear hc0 hxy hI
      go_wp2_with fail
      refine (toClue_any _ _ _ _).mono ?_
      rintro e w2 ⟨rfl, hb2⟩
      have hz2 := hb2.size
      have hI2 := HI.out.later hb2
      have hB2 := hB.trans (hb2.mono (by omega))
      have HS := Lib.hid (hI2.stored k x y z)
      have d0 := hI2.cell0 k (by rw [fillG_length _ _ _ _ hk]; omega)
      have d1 := hI2.cell1 k (by rw [fillG_length _ _ _ _ hk]; omega)
      have d2 := hI2.cell2 k (by rw [fillG_length _ _ _ _ hk]; omega)
      have f0 := hI2.frozenAt (k * 3)
      have f1 := hI2.frozenAt (k * 3 + 1)
      have f2 := hI2.frozenAt (k * 3 + 2)
      have HB3 := Lib.hid (hI2.below hB2 (by omega) HS.out.2)
      clear hI2 hb2 cx cy cz hB hB2
      go_wp2
      go_roundw
      case rel => exact ⟨k + 1, by omega, by go_num, by rw [← HF.out, HXY.out]; exact HS.out.1, HB3.out, by simp; omega⟩
      case measure => simp [intOf]; omega
    · obtain rfl : k = n := by omega
      rw [fillG_all, HE.out] at hI
      go_wp2
      go_ret
      exact ⟨_, rfl, hI.inn, hB⟩

set_option maxHeartbeats 400000 in
theorem toPuzzle_any (v : Value) (xs : List Tri) (w : World) (h : ArgT w v xs) (hn : xs.length ≤ 1048576) :
    Calls Tryd.prog 16 #[.agg #[v]] w fun e w' => ∃ v', e = .returned (.agg #[v']) ∧ TripsIn 44 w' w.heap.size w'.heap.size v' xs ∧ Below w.heap.size w w' := by
  have HH := Lib.hid h
  obtain ⟨a0, cap, a, rfl, _⟩ := h
  go_enter Tryd.func16, Tryd.ntmps16
  go_wp2_with (first | (go_at_call 56; (with_reducible refine (toClueS_any _ xs _ (HH.out.later (by go_grown)) hn).mono ?_); rintro e w1 ⟨v1, rfl, hI, hb1⟩; have hz1 := hb1.size; (have c1 : w1.cell? ⟨w.heap.size + 1, 0, none⟩ = some (.slice none 0 0) := cellB hb1 (by go_simp)); (have c2 : w1.cell? ⟨w.heap.size + 2, 0, none⟩ = some (.slice none 0 0) := cellB hb1 (by go_simp)); (have f1 : w1.frozen? ⟨w.heap.size + 1, 0, none⟩ = false := frozenB hb1 (by simp) (by go_simp)); (have f2 : w1.frozen? ⟨w.heap.size + 2, 0, none⟩ = false := frozenB hb1 (by simp) (by go_simp)); (have hI1 := Lib.hid hI); (obtain ⟨q1, q2, q3, hv⟩ := own_formT hI.1); subst hv; clear hI))
  refine bodyPost_ret (v := .agg #[.slice q1 q2 q3]) (by simp [results, Tryd.results16, go_sem, c1]) rfl ⟨_, rfl, ?_, ?_⟩
  · exact ((hI1.out.wider (B' := w.heap.size + 3) (T' := w1.heap.size) (by simp) (Nat.le_refl _)).setC _ _ (by show w.heap.size + 2 < _; omega)).setC _ _ (by show w.heap.size + 1 < _; omega) |>.wider (by omega) (by simp)
  · exact ((Below.trans (by go_grown) (hb1.mono (by first | (simp; done) | (simp; omega))) : Below w.heap.size w w1).setC _ _ (by show _ ≤ w.heap.size + 2; omega)).setC _ _ (by show _ ≤ w.heap.size + 1; omega)

set_option maxHeartbeats 400000 in
theorem eqClue_same (a b c : Int) (w : World) :
    Calls Tryd.prog 101 #[.agg #[.int .i64 a, .int .i64 b, .int .i64 c], .agg #[.int .i64 a, .int .i64 b, .int .i64 c]] w fun e w' => e = .returned (.bool true) ∧ Below w.heap.size w w' := by
  go_enter Tryd.func101, Tryd.ntmps101
  go_wp2
  go_ret
  exact ⟨rfl, by go_grown⟩

set_option maxHeartbeats 400000 in
theorem eqClueS_in (v1 v2 : Value) (xs : List Tri) (B1 T1 B2 T2 : Nat) (e : TypeId) (w : World) (h1 : TripsIn e w B1 T1 v1 xs) (h2 : TripsIn e w B2 T2 v2 xs) :
    Calls Tryd.prog 59 #[v1, v2] w fun e w' => e = .returned (.bool true) ∧ Below w.heap.size w w' := by
  obtain ⟨a1, c1, g1, rfl, ha1, hm, hx1⟩ := h1.trips.view
  obtain ⟨a2, c2, g2, rfl, ha2, _, hx2⟩ := h2.trips.view
  clear h1 h2
  unfold maxLen at hm
  have X1 := Lib.hid hx1
  have X2 := Lib.hid hx2
  have HA1 := Lib.hid ha1
  have HA2 := Lib.hid ha2
  clear hx1 hx2 ha1 ha2
  go_enter Tryd.func59, Tryd.ntmps59
  go_wp2
  go_loopw [5] (fun i wr => ∃ k : Nat, k ≤ xs.length ∧ i = .int .i64 k ∧ Below w.heap.size w wr) (fun i _ => xs.length - (intOf i).toNat)
  case atStart => exact ⟨0, by omega, rfl, Below.refl _ _⟩
  case round =>
    obtain ⟨k, hk, rfl, hB⟩ := hrel
    by_cases hlt : k < xs.length
    · obtain rfl := HA1.out (by omega)
      obtain rfl := HA2.out (by omega)
      have hz := hB.size
      have cx1 := cellB hB (X1.out k hlt).1
      have cx2 := cellB hB (X2.out k hlt).1
      have cy1 := cellB hB (X1.out k hlt).2.1
      have cy2 := cellB hB (X2.out k hlt).2.1
      have cz1 := cellB hB (X1.out k hlt).2.2
      have cz2 := cellB hB (X2.out k hlt).2.2
      generalize (xs.getD k noT).1 = x at *
      generalize (xs.getD k noT).2.1 = y at *
      generalize (xs.getD k noT).2.2 = z at *
      have hi1 : 0 ≤ (k : Int) := by omega
      have hi2 : (k : Int) < (xs.length : Int) := by omega
      go_wp2
      go_region_held3 (fun w' => w'.cell? ⟨g1, k * 3, none⟩ = some (.int .i64 x) ∧ w'.cell? ⟨g2, k * 3, none⟩ = some (.int .i64 x) ∧ w'.cell? ⟨g1, k * 3 + 1, none⟩ = some (.int .i64 y) ∧ w'.cell? ⟨g2, k * 3 + 1, none⟩ = some (.int .i64 y) ∧ w'.cell? ⟨g1, k * 3 + 2, none⟩ = some (.int .i64 z) ∧ w'.cell? ⟨g2, k * 3 + 2, none⟩ = some (.int .i64 z)) (go_keep)
        (first | (go_at_call 101; refine (eqClue_same _ _ _ _).mono ?_; rintro e w1 ⟨rfl, hb⟩; have d1 := cellB hb cx1; have d2 := cellB hb cx2; have d3 := cellB hb cy1; have d4 := cellB hb cy2; have d5 := cellB hb cz1; have d6 := cellB hb cz2; (have hB2 : Below w.heap.size w w1 := by (refine Below.trans ?_ (hb.mono (by first | exact hz | (simp; omega))); go_grown))))
      go_wp2
      go_roundw
      case rel => exact ⟨k + 1, by omega, by go_num, hB2⟩
      case measure => simp [intOf]; omega
    · go_wp2
      go_ret
      exact ⟨rfl, hB⟩

set_option maxHeartbeats 400000 in
theorem eqPuzzle_in (v1 v2 : Value) (xs : List Tri) (B1 T1 B2 T2 : Nat) (e : TypeId) (w : World) (h1 : TripsIn e w B1 T1 v1 xs) (h2 : TripsIn e w B2 T2 v2 xs) (hT1 : T1 ≤ w.heap.size) (hT2 : T2 ≤ w.heap.size) :
    Calls Tryd.prog 19 #[.agg #[v1], .agg #[v2]] w fun e w' => e = .returned (.bool true) ∧ Below w.heap.size w w' := by
  have H1 := Lib.hid h1
  have H2 := Lib.hid h2
  obtain ⟨a1, c1, g1, rfl, _⟩ := h1.trips.view
  obtain ⟨a2, c2, g2, rfl, _⟩ := h2.trips.view
  clear h1 h2
  go_enter Tryd.func19, Tryd.ntmps19
  go_wp2_with (first | (go_at_call 59; (refine (eqClueS_in _ _ xs B1 T1 B2 T2 e _ (H1.out.keep (belowSame (by go_grown) hT1)) (H2.out.keep (belowSame (by go_grown) hT2))).mono ?_); rintro e w1 ⟨rfl, hb⟩; (have hB2 : Below w.heap.size w w1 := by (refine Below.trans ?_ (hb.mono (by first | (simp; done) | (simp; omega))); go_grown))))
  go_ret
  exact ⟨rfl, hB2⟩

set_option maxHeartbeats 400000 in
theorem heldClueS_in (v : Value) (m : Int) (n : Nat) (B T : Nat) (e : TypeId) (w : World) (h : TripsIn e w B T v (markT m n)) (hm1 : 0 ≤ m) (hm2 : m ≤ 1000000000) (hn : n ≤ 1000000000) :
    Calls Tryd.prog 64 #[v, .int .i64 m] w fun e w' => e = .returned (.int .i64 (m + 3 * n)) ∧ Below w.heap.size w w' := by
  obtain ⟨a1, c1, g1, rfl, ha1, _, hx1⟩ := h.trips.view
  rw [markT_length] at ha1 hx1 ⊢
  have hx : ∀ i, i < n → w.cell? ⟨g1, i * 3, none⟩ = some (.int .i64 (m + 3 * (i : Int))) ∧ w.cell? ⟨g1, i * 3 + 1, none⟩ = some (.int .i64 (m + 3 * (i : Int) + 1)) ∧ w.cell? ⟨g1, i * 3 + 2, none⟩ = some (.int .i64 (m + 3 * (i : Int) + 2)) := fun i hi => by
    have := hx1 i hi
    rw [markT_get m n i hi] at this
    exact this
  have X := Lib.hid hx
  have HA := Lib.hid ha1
  clear hx hx1 ha1 h
  go_enter Tryd.func64, Tryd.ntmps64
  go_wp2
  go_loop [1, 5] (fun u i => ∃ k : Nat, k ≤ n ∧ i = .int .i64 k ∧ u = .int .i64 (m + 3 * (k : Int))) (fun _ i => n - (intOf i).toNat)
  case atStart => exact ⟨0, by omega, rfl, by simp⟩
  case round =>
    obtain ⟨k, hk, rfl, rfl⟩ := hrel
    by_cases hlt : k < n
    · obtain rfl := HA.out (by omega)
      obtain ⟨cx, cy, cz⟩ := X.out k hlt
      go_wp2
      go_round
      case rel => exact ⟨k + 1, by omega, by go_num, by simp; omega⟩
      case measure => simp [intOf]; omega
    · obtain rfl : k = n := by omega
      go_wp2
      go_ret
      exact ⟨rfl, Below.refl _ _⟩

set_option maxHeartbeats 400000 in
theorem heldPuzzle_in (v : Value) (m : Int) (n : Nat) (B T : Nat) (e : TypeId) (w : World) (h : TripsIn e w B T v (markT m n)) (hT : T ≤ w.heap.size) (hm1 : 0 ≤ m) (hm2 : m ≤ 1000000000) (hn : n ≤ 1000000000) :
    Calls Tryd.prog 25 #[.agg #[v], .int .i64 m] w fun e w' => e = .returned (.int .i64 (m + 3 * n)) ∧ Below w.heap.size w w' := by
  have H1 := Lib.hid h
  obtain ⟨a1, c1, g1, rfl, _⟩ := h.trips.view
  clear h
  rw [markT_length] at H1 ⊢
  go_enter Tryd.func25, Tryd.ntmps25
  go_wp2_with (first | (go_at_call 64; (refine (heldClueS_in _ m n B T e _ (H1.out.keep (belowSame (by go_grown) hT)) hm1 hm2 hn).mono ?_); rintro e w1 ⟨rfl, hb1⟩))
  go_ret
  exact ⟨rfl, Below.trans (by go_grown) (hb1.mono (by simp))⟩

theorem Only.behind {B T : Nat} {w w1 w' : World} (h1 : Below w.heap.size w w1) (h : Only B T w1 w') : Only B T w w' :=
  Only.trans ⟨h1.os, h1.tape, h1.output, h1.size, fun k hk _ => h1.block k hk⟩ h

set_option maxHeartbeats 400000 in
theorem markClueS_in (v : Value) (xs : List Tri) (m : Int) (B T : Nat) (e : TypeId) (w : World) (h : TripsIn e w B T v xs) (hm1 : 0 ≤ m) (hm2 : m ≤ 1000000000) (hn : xs.length ≤ 1000000000) :
    Calls Tryd.prog 60 #[v, .int .i64 m] w fun e' w' => e' = .returned (.int .i64 (m + 3 * xs.length)) ∧ TripsIn e w' B T v (markT m xs.length) ∧ Only B T w w' := by
  obtain ⟨a1, c1, g1, hv, ha1, _⟩ := h.trips.view
  have hown := h.own
  have htop := h.2
  have hp := h.trips
  rw [hv] at hp hown htop ⊢
  have HA := Lib.hid ha1
  have HI := Lib.hid hp
  have HO := Lib.hid hown
  have HT := Lib.hid htop
  clear ha1 hp h hown htop
  go_enter Tryd.func60, Tryd.ntmps60
  go_wp2
  go_loopw [1, 5] (fun u i wr => ∃ k : Nat, k ≤ xs.length ∧ i = .int .i64 k ∧ u = .int .i64 (m + 3 * (k : Int)) ∧ Trips wr B e (.slice a1 xs.length c1) (markedT m xs k) ∧ w.grownBy wr (Value.slice a1 xs.length c1).ownBlock) (fun _ i _ => xs.length - (intOf i).toNat)
  case atStart => exact ⟨0, by omega, rfl, by simp, by rw [markedT_zero]; exact HI.out, grownBy_refl _ _⟩
  case round =>
    obtain ⟨k, hk, rfl, rfl, hI, hg⟩ := hrel
    by_cases hlt : k < xs.length
    · obtain rfl := HA.out (by omega)
      have hl := markedT_length m xs k hk
      have s1 := hI.stored k (m + 3 * (k : Int)) (m + 3 * (k : Int) + 1) (m + 3 * (k : Int) + 2)
      rw [markedT_set m xs k hlt] at s1
      have cx := hI.cell0 k (by omega)
      have cy := hI.cell1 k (by omega)
      have cz := hI.cell2 k (by omega)
      have ff := hI.frozenAt
      have S1 := Lib.hid s1
      generalize ((markedT m xs k).getD k noT).1 = x at *
      generalize ((markedT m xs k).getD k noT).2.1 = y at *
      generalize ((markedT m xs k).getD k noT).2.2 = z at *
      have f0 := ff (k * 3)
      have f1 := ff (k * 3 + 1)
      have f2 := ff (k * 3 + 2)
      clear s1 ff hI hl
      go_wp2
      go_roundw
      case rel => exact ⟨k + 1, by omega, by go_num, by simp; omega, by first | exact S1.out.1 | (simpa [Int.add_assoc] using S1.out.1), by first | exact grownBy_trans hg S1.out.2 | (simpa [Int.add_assoc] using grownBy_trans hg S1.out.2)⟩
      case measure => simp [intOf]; omega
    · obtain rfl : k = xs.length := by omega
      rw [markedT_all] at hI
      go_wp2
      go_ret
      exact ⟨rfl, ⟨hI, HT.out⟩, Only.of_grown hg HO.out⟩

set_option maxHeartbeats 400000 in
theorem markPuzzle_in (v : Value) (xs : List Tri) (m : Int) (B T : Nat) (e : TypeId) (w : World) (h : TripsIn e w B T v xs) (hT : T ≤ w.heap.size) (hm1 : 0 ≤ m) (hm2 : m ≤ 1000000000) (hn : xs.length ≤ 1000000000) :
    Calls Tryd.prog 20 #[.agg #[v], .int .i64 m] w fun e' w' => e' = .returned (.int .i64 (m + 3 * xs.length)) ∧ TripsIn e w' B T v (markT m xs.length) ∧ Only B T w w' := by
  have H1 := Lib.hid h
  obtain ⟨a1, c1, g1, rfl, _⟩ := h.trips.view
  clear h
  go_enter Tryd.func20, Tryd.ntmps20
  go_wp2_with (first | (go_at_call 60; (refine (markClueS_in _ xs m B T e _ (H1.out.keep (belowSame (by go_grown) hT)) hm1 hm2 hn).mono ?_); rintro e w1 ⟨rfl, hI, hO⟩))
  go_ret
  exact ⟨rfl, hI, hO.behind (by go_grown)⟩
end Go.Proofs.YtbgcbokddldmkaaDoor
