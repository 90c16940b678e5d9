/- Slices of structs of three integers: what they hold, made, appended, wherever they lie. Nothing of the program. -/
import Derived.Test.YtpliaenpencocabBA
namespace Go.Proofs.Ytpliaenpencocab
open Go.RowKit

abbrev Tri := Int × Int × Int

/-- The cells of triples, one after the other. -/
def flatT : List Tri → List Int
  | [] => []
  | p :: r => p.1 :: p.2.1 :: p.2.2 :: flatT r

abbrev noT : Tri := (0, 0, 0)

theorem flatT_length (xs : List Tri) : (flatT xs).length = xs.length * 3 := by
  induction xs with
  | nil => rfl
  | cons p r ih => simp [flatT, ih]; omega

theorem flatT_get0 (xs : List Tri) (k : Nat) : (flatT xs).getD (k * 3) 0 = (xs.getD k noT).1 := by
  induction xs generalizing k with
  | nil => simp [flatT]
  | cons p r ih =>
    cases k with
    | zero => simp [flatT]
    | succ k =>
      rw [show (k + 1) * 3 = k * 3 + 1 + 1 + 1 by omega]
      simpa [flatT] using ih k

theorem flatT_get1 (xs : List Tri) (k : Nat) : (flatT xs).getD (k * 3 + 1) 0 = (xs.getD k noT).2.1 := by
  induction xs generalizing k with
  | nil => simp [flatT]
  | cons p r ih =>
    cases k with
    | zero => simp [flatT]
    | succ k =>
      rw [show (k + 1) * 3 + 1 = k * 3 + 1 + 1 + 1 + 1 by omega]
      simpa [flatT] using ih k

theorem flatT_get2 (xs : List Tri) (k : Nat) : (flatT xs).getD (k * 3 + 2) 0 = (xs.getD k noT).2.2 := by
  induction xs generalizing k with
  | nil => simp [flatT]
  | cons p r ih =>
    cases k with
    | zero => simp [flatT]
    | succ k =>
      rw [show (k + 1) * 3 + 2 = k * 3 + 2 + 1 + 1 + 1 by omega]
      simpa [flatT] using ih k

theorem flatT_set (xs : List Tri) (k : Nat) (x y z : Int) : (((flatT xs).set (k * 3) x).set (k * 3 + 1) y).set (k * 3 + 2) z = flatT (xs.set k (x, y, z)) := by
  induction xs generalizing k with
  | nil => simp [flatT]
  | cons p r ih =>
    cases k with
    | zero => simp [flatT]
    | succ k =>
      rw [show (k + 1) * 3 = k * 3 + 1 + 1 + 1 by omega, show k * 3 + 1 + 1 + 1 + 1 = k * 3 + 1 + 1 + 1 + 1 by omega]
      have := ih k
      simpa [flatT] using this

theorem flatT_append (xs ys : List Tri) : flatT (xs ++ ys) = flatT xs ++ flatT ys := by
  induction xs with
  | nil => rfl
  | cons p r ih => simp [flatT, ih]

/-- The slice v holds the triples xs. -/
def Trips (w : World) (B : Nat) (e : TypeId) (v : Value) (xs : List Tri) : Prop := w.ownsRow B e 3 v xs.length ((flatT xs).map (Value.int .i64))

def TripsIn (e : TypeId) (w : World) (B T : Nat) (v : Value) (xs : List Tri) : Prop := Trips w B e v xs ∧ ∀ k, v.ownBlock = some k → k < T

theorem Trips.len {w : World} {B g n cap : Nat} {e : TypeId} {xs : List Tri} (h : Trips w B e (.slice (some ⟨g, 0, none⟩) n cap) xs) : n = xs.length := by
  rcases h.2 with ⟨hv, _⟩ | ⟨_, _, _, hv, _⟩
  · cases hv
  · cases hv; rfl

theorem Trips.cellAny {w : World} {B g n cap : Nat} {e : TypeId} {xs : List Tri} (h : Trips w B e (.slice (some ⟨g, 0, none⟩) n cap) xs) (j : Nat) (hj : j < xs.length * 3) : w.cell? ⟨g, j, none⟩ = some (.int .i64 ((flatT xs).getD j 0)) := by
  obtain rfl := h.len
  rw [World.ownsRow.cellAt h j hj, List.getElem?_map, List.getElem?_eq_getElem (by rw [flatT_length]; omega), List.getD_eq_getElem?_getD, List.getElem?_eq_getElem (by rw [flatT_length]; omega)]
  rfl

theorem Trips.cell0 {w : World} {B g n cap : Nat} {e : TypeId} {xs : List Tri} (h : Trips w B e (.slice (some ⟨g, 0, none⟩) n cap) xs) (i : Nat) (hi : i < xs.length) : w.cell? ⟨g, i * 3, none⟩ = some (.int .i64 (xs.getD i noT).1) := by
  rw [h.cellAny (i * 3) (by omega), flatT_get0]
theorem Trips.cell1 {w : World} {B g n cap : Nat} {e : TypeId} {xs : List Tri} (h : Trips w B e (.slice (some ⟨g, 0, none⟩) n cap) xs) (i : Nat) (hi : i < xs.length) : w.cell? ⟨g, i * 3 + 1, none⟩ = some (.int .i64 (xs.getD i noT).2.1) := by
  rw [h.cellAny (i * 3 + 1) (by omega), flatT_get1]
theorem Trips.cell2 {w : World} {B g n cap : Nat} {e : TypeId} {xs : List Tri} (h : Trips w B e (.slice (some ⟨g, 0, none⟩) n cap) xs) (i : Nat) (hi : i < xs.length) : w.cell? ⟨g, i * 3 + 2, none⟩ = some (.int .i64 (xs.getD i noT).2.2) := by
  rw [h.cellAny (i * 3 + 2) (by omega), flatT_get2]

theorem Trips.frozenAt {w : World} {B g n cap : Nat} {e : TypeId} {xs : List Tri} (h : Trips w B e (.slice (some ⟨g, 0, none⟩) n cap) xs) (i : Nat) : w.frozen? ⟨g, i, none⟩ = false := by
  obtain rfl := h.len
  exact World.ownsRow.frozenAt h i

/-- All cells of an element are stored. -/
theorem Trips.stored {w : World} {B g n cap : Nat} {e : TypeId} {xs : List Tri} (h : Trips w B e (.slice (some ⟨g, 0, none⟩) n cap) xs) (j : Nat) (x y z : Int) :
    Trips (((w.setCell ⟨g, j * 3, none⟩ (.int .i64 x)).setCell ⟨g, j * 3 + 1, none⟩ (.int .i64 y)).setCell ⟨g, j * 3 + 2, none⟩ (.int .i64 z)) B e (.slice (some ⟨g, 0, none⟩) n cap) (xs.set j (x, y, z)) ∧
      w.grownBy (((w.setCell ⟨g, j * 3, none⟩ (.int .i64 x)).setCell ⟨g, j * 3 + 1, none⟩ (.int .i64 y)).setCell ⟨g, j * 3 + 2, none⟩ (.int .i64 z)) (some g) := by
  obtain rfl := h.len
  have h0 := World.ownsRow.stored h (j * 3) (.int .i64 x)
  have h1 := World.ownsRow.stored h0.1 (j * 3 + 1) (.int .i64 y)
  have h2 := World.ownsRow.stored h1.1 (j * 3 + 2) (.int .i64 z)
  refine ⟨?_, grownBy_trans (grownBy_trans h0.2 h1.2) h2.2⟩
  unfold Trips
  rw [List.length_set, ← flatT_set, List.map_set, List.map_set, List.map_set]
  exact h2.1

theorem Trips.view {w : World} {B : Nat} {e : TypeId} {v : Value} {xs : List Tri} (h : Trips w B e v xs) :
    ∃ (a0 : Option Addr) (cap g : Nat), v = .slice a0 xs.length cap ∧ (0 < xs.length → a0 = some ⟨g, 0, none⟩) ∧ xs.length ≤ maxLen ∧
      ∀ i, i < xs.length → w.cell? ⟨g, i * 3, none⟩ = some (.int .i64 (xs.getD i noT).1) ∧ w.cell? ⟨g, i * 3 + 1, none⟩ = some (.int .i64 (xs.getD i noT).2.1) ∧ w.cell? ⟨g, i * 3 + 2, none⟩ = some (.int .i64 (xs.getD i noT).2.2) := by
  have h0 := h
  obtain ⟨hl, h1 | ⟨g, cap, cur, hv, hB, hg, hn, hm, hs, ht⟩⟩ := h0
  · obtain ⟨hv, hn⟩ := h1
    exact ⟨none, 0, 0, by rw [hn]; exact hv, fun h => by omega, by omega, fun i hi => by omega⟩
  · subst hv
    exact ⟨some ⟨g, 0, none⟩, cap, g, rfl, fun _ => rfl, by omega, fun i hi => ⟨h.cell0 i hi, h.cell1 i hi, h.cell2 i hi⟩⟩

theorem Trips.own {w : World} {B : Nat} {e : TypeId} {v : Value} {xs : List Tri} (h : Trips w B e v xs) : ∀ k, v.ownBlock = some k → B ≤ k ∧ k < w.heap.size := World.ownsRow.lt h
theorem Trips.drewN {w : World} {B : Nat} {e : TypeId} {v : Value} {xs : List Tri} (h : Trips w B e v xs) (n : Nat) : Trips (w.drewN n) B e v xs := h
theorem TripsIn.trips {e : TypeId} {w : World} {B T : Nat} {v : Value} {xs : List Tri} (h : TripsIn e w B T v xs) : Trips w B e v xs := h.1
theorem TripsIn.own {e : TypeId} {w : World} {B T : Nat} {v : Value} {xs : List Tri} (h : TripsIn e w B T v xs) : ∀ k, v.ownBlock = some k → B ≤ k ∧ k < T := fun k hk => ⟨(h.1.own k hk).1, h.2 k hk⟩

theorem TripsIn.keep {e : TypeId} {w w' : World} {B T : Nat} {v : Value} {xs : List Tri} (h : TripsIn e w B T v xs) (hs : Same B T w w') : TripsIn e w' B T v xs := by
  refine ⟨⟨h.1.1, ?_⟩, h.2⟩
  rcases h.1.2 with h1 | ⟨g, cap, cur, hv, hB, hg, hn, hm, hz, ht⟩
  · exact .inl h1
  · refine .inr ⟨g, cap, cur, hv, hB, ?_, hn, hm, hz, ht⟩
    rw [hs g hB (h.2 g (by rw [hv]; rfl)), hg]

theorem TripsIn.nil (e : TypeId) (w : World) (B T : Nat) : TripsIn e w B T (.slice none 0 0) [] := ⟨World.ownsRow_nil _ _ _ _, fun k hk => by simp [Value.ownBlock] at hk⟩
theorem Trips.inn {e : TypeId} {w : World} {B : Nat} {v : Value} {xs : List Tri} (h : Trips w B e v xs) : TripsIn e w B w.heap.size v xs := ⟨h, fun k hk => (h.own k hk).2⟩
theorem Trips.later {w w' : World} {B : Nat} {e : TypeId} {v : Value} {xs : List Tri} (h : Trips w B e v xs) (hb : Below w.heap.size w w') : Trips w' B e v xs :=
  World.ownsRow.kept h (Below.by hb) (by cases hv : v.ownBlock with | none => exact .inl rfl | some k => exact .inr (by simp))
theorem Trips.mono {w : World} {B B' : Nat} {e : TypeId} {v : Value} {xs : List Tri} (h : Trips w B e v xs) (hb : B' ≤ B) : Trips w B' e v xs := World.ownsRow.mono h hb
theorem Trips.below {w0 w w' : World} {B : Nat} {e : TypeId} {v : Value} {xs : List Tri} (h : Trips w B e v xs) (hb : Below B w0 w) (hB : B ≤ w.heap.size) (hg : w.grownBy w' v.ownBlock) : Below B w0 w' :=
  hb.grown hg hB fun k hk => (h.own k hk).1
theorem TripsIn.wider {e : TypeId} {w : World} {B T B' T' : Nat} {v : Value} {xs : List Tri} (h : TripsIn e w B T v xs) (hB : B' ≤ B) (hT : T ≤ T') : TripsIn e w B' T' v xs :=
  ⟨h.1.mono hB, fun k hk => Nat.lt_of_lt_of_le (h.2 k hk) hT⟩

/-- The marks of triples. -/
def markT (m : Int) (n : Nat) : List Tri := (List.range n).map fun (i : Nat) => (m + 3 * (i : Int), m + 3 * (i : Int) + 1, m + 3 * (i : Int) + 2)
theorem markT_length (m : Int) (n : Nat) : (markT m n).length = n := by simp [markT]
theorem markT_get (m : Int) (n i : Nat) (h : i < n) : (markT m n).getD i noT = (m + 3 * (i : Int), m + 3 * (i : Int) + 1, m + 3 * (i : Int) + 2) := by
  simp [markT, List.getD, List.getElem?_map, List.getElem?_range h]
def markedT (m : Int) (xs : List Tri) (k : Nat) : List Tri := markT m k ++ xs.drop k
theorem markedT_zero (m : Int) (xs : List Tri) : markedT m xs 0 = xs := by simp [markedT, markT]
theorem markedT_all (m : Int) (xs : List Tri) : markedT m xs xs.length = markT m xs.length := by simp [markedT]
theorem markedT_length (m : Int) (xs : List Tri) (k : Nat) (h : k ≤ xs.length) : (markedT m xs k).length = xs.length := by
  simp [markedT, markT_length]; omega
theorem markedT_set (m : Int) (xs : List Tri) (k : Nat) (h : k < xs.length) : (markedT m xs k).set k (m + 3 * (k : Int), m + 3 * (k : Int) + 1, m + 3 * (k : Int) + 2) = markedT m xs (k + 1) := by
  unfold markedT
  rw [List.set_append_right _ _ (by simp [markT_length]), markT_length, Nat.sub_self, List.drop_eq_getElem_cons h, List.set_cons_zero]
  simp [markT, List.range_succ]

/-! made -/
def zeroTrips (n : Nat) : Array Value := madeCells #[Value.int .i64 0, Value.int .i64 0, Value.int .i64 0] (n * 3)

theorem flatT_zeros (n : Nat) : flatT (List.replicate n noT) = List.replicate (n * 3) 0 := by
  induction n with
  | zero => rfl
  | succ n ih =>
    rw [List.replicate_succ, show (n + 1) * 3 = n * 3 + 1 + 1 + 1 by omega, List.replicate_succ, List.replicate_succ, List.replicate_succ]
    simp [flatT, ih]

theorem zeroTrips_list (n : Nat) : (zeroTrips n).toList = (flatT (List.replicate n noT)).map (Value.int .i64) := by
  rw [flatT_zeros]
  apply List.ext_getElem?
  intro i
  by_cases h : i < n * 3
  · have e : i % 3 = 0 ∨ i % 3 = 1 ∨ i % 3 = 2 := by omega
    rcases e with e | e | e <;> simp [zeroTrips, madeCells, h, e]
  · simp [zeroTrips, madeCells, h]

theorem make_trips {P : Program} {t e : TypeId} (ht : P.underlying t = some (.slice e)) (hi : (P.info? e).map (fun i => (i.zero, i.size, i.bytes)) = some (some (.agg #[.int .i64 0, .int .i64 0, .int .i64 0]), 3, 24)) (n : Nat) (hn : n ≤ 1000000000) :
    ∀ W : World, (Instr.makeSlice t (.int .i64 (n : Int)) (.int .i64 (n : Int))).run P W = .ok (.slice (some ⟨W.heap.size, 0, none⟩) n n) (W.alloc (.cells (zeroTrips n) e)) := by
  intro W
  obtain ⟨i, hi, hz0, hz1, hz2⟩ := info_parts hi
  have := run_make (P := P) W t e i (.agg #[.int .i64 0, .int .i64 0, .int .i64 0]) ht hi hz0 .i64 .i64 (n : Int) (n : Int) (by omega) (Int.le_refl _) (by rw [hz2]; omega) (by omega)
  rw [this, hz1]
  simp [zeroTrips, Value.cells]

theorem zeroTrips_size (n : Nat) : (zeroTrips n).size = n * 3 := by simp [zeroTrips, size_madeCells]

theorem Trips.made (W : World) (B : Nat) (e : TypeId) (n : Nat) (hB : B ≤ W.heap.size) (hn : n ≤ 1000000000) :
    Trips (W.alloc (.cells (zeroTrips n) e)) B e (.slice (some ⟨W.heap.size, 0, none⟩) n n) (List.replicate n noT) := by
  refine ⟨by simp [flatT_length], .inr ⟨W.heap.size, n, zeroTrips n, by simp, hB, heap_alloc_new W _, by simp, by unfold maxLen; omega, zeroTrips_size n, ?_⟩⟩
  rw [zeroTrips_list, List.take_of_length_le (by simp [flatT_length])]

/-- 'append(out, T{x, y, z})' onto triples of the call's own. -/
theorem wpList_append_trip {P : Program} {wr : World} {ops : Array Oper} {rest : List Oper} {o : Oper} {a : Act} {Q : Exit → Act → World → Prop} (hgd : o.guard = none) (s x : Operand) (t : TypeId)
    (ho : o.op = .call { callee := .builtin .append, args := #[s, x], argTypes := #[t, t] }) (base : Nat) (e : TypeId) (ht : P.underlying t = some (.slice e))
    (hi : (P.info? e).map (fun i => (i.zero, i.size, i.bytes)) = some (some (.agg #[.int .i64 0, .int .i64 0, .int .i64 0]), 3, 24)) (v : Value) (xs : List Tri) (hs : a.eval s = v) (hI : Trips wr base e v xs) (y z u : Int)
    (hx : a.eval x = .slice (some ⟨wr.heap.size, 0, none⟩) 1 1) (hn : xs.length < 1000000000) (hbase : base ≤ wr.heap.size)
    (h : ∀ v' w', Trips w' base e v' (xs ++ [(y, z, u)]) → wr.grownBy w' v.ownBlock → wpList P ops Q rest (a.put o.dst v') w') :
    wpList P ops Q (o :: rest) a (wr.alloc (.cells #[.int .i64 y, .int .i64 z, .int .i64 u] e)) := by
  obtain ⟨i, hi, hz0, hz1, hz2⟩ := info_parts hi
  refine wpList_append_own _ hgd s x t ho base e i (.agg #[.int .i64 0, .int .i64 0, .int .i64 0]) 3 24 ht hi hz0 hz1 hz2 rfl (by decide) v xs.length _ hs (World.ownsRow.alloc hI _) ⟨wr.heap.size, 0, none⟩ 1 1 [.int .i64 y, .int .i64 z, .int .i64 u] hx rfl ?_ ?_ (by unfold maxLen; omega) (by omega) (by simp; omega) ?_
  · intro j u' hu
    match j with
    | 0 =>
      simp at hu
      subst hu
      exact cell_of_row _ wr.heap.size 0 #[.int .i64 y, .int .i64 z, .int .i64 u] e _ (heap_alloc_new wr _)
    | 1 =>
      simp at hu
      subst hu
      exact cell_of_row _ wr.heap.size 1 #[.int .i64 y, .int .i64 z, .int .i64 u] e _ (heap_alloc_new wr _)
    | 2 =>
      simp at hu
      subst hu
      exact cell_of_row _ wr.heap.size 2 #[.int .i64 y, .int .i64 z, .int .i64 u] e _ (heap_alloc_new wr _)
    | j + 3 => simp at hu
  · intro u' hu
    simp at hu
    rcases hu with rfl | rfl | rfl <;> rfl
  · intro v' w' h1 h2 _
    refine h v' w' ?_ (grownBy_trans (World.grownBy_alloc _ _ _) h2)
    have e1 : (xs ++ [(y, z, u)]).length = xs.length + 1 := by simp
    unfold Trips
    rw [e1, flatT_append, List.map_append]
    exact h1

/-! triples that lie somewhere -/
/-- The slice v, wherever it lies, holds the triples xs. -/
def SrcT (w : World) (v : Value) (xs : List Tri) : Prop :=
  (v = .slice none 0 0 ∧ xs = []) ∨ ∃ (b off cap : Nat), v = .slice (some ⟨b, off, none⟩) xs.length cap ∧ xs.length ≤ cap ∧ cap ≤ maxLen ∧
    ∀ i, i < xs.length → w.cell? ⟨b, off + i * 3, none⟩ = some (.int .i64 (xs.getD i noT).1) ∧ w.cell? ⟨b, off + i * 3 + 1, none⟩ = some (.int .i64 (xs.getD i noT).2.1) ∧ w.cell? ⟨b, off + i * 3 + 2, none⟩ = some (.int .i64 (xs.getD i noT).2.2)

theorem SrcT.later {w w' : World} {v : Value} {xs : List Tri} (h : SrcT w v xs) (hb : Below w.heap.size w w') : SrcT w' v xs := by
  rcases h with h | ⟨b, off, cap, hv, hm, hm2, hc⟩
  · exact .inl h
  · exact .inr ⟨b, off, cap, hv, hm, hm2, fun i hi => ⟨(hb.cell (World.block_lt_of_cell? w _ (hc i hi).1)).trans (hc i hi).1, (hb.cell (World.block_lt_of_cell? w _ (hc i hi).2.1)).trans (hc i hi).2.1, (hb.cell (World.block_lt_of_cell? w _ (hc i hi).2.2)).trans (hc i hi).2.2⟩⟩

theorem SrcT.drewN {w : World} {v : Value} {xs : List Tri} (h : SrcT w v xs) (n : Nat) : SrcT (w.drewN n) v xs := h

theorem flatT_cells {w : World} {b off : Nat} {xs : List Tri} (hc : ∀ i, i < xs.length → w.cell? ⟨b, off + i * 3, none⟩ = some (.int .i64 (xs.getD i noT).1) ∧ w.cell? ⟨b, off + i * 3 + 1, none⟩ = some (.int .i64 (xs.getD i noT).2.1) ∧ w.cell? ⟨b, off + i * 3 + 2, none⟩ = some (.int .i64 (xs.getD i noT).2.2)) :
    ∀ j u, ((flatT xs).map (Value.int .i64))[j]? = some u → w.cell? ((⟨b, off, none⟩ : Addr).add j) = some u := by
  intro j u hu
  rw [List.getElem?_map] at hu
  have hj : j < (flatT xs).length := by
    rcases Nat.lt_or_ge j (flatT xs).length with h | h
    · exact h
    · rw [List.getElem?_eq_none h] at hu; cases hu
  rw [List.getElem?_eq_getElem hj] at hu
  simp only [Option.map_some, Option.some.injEq] at hu
  subst hu
  have hadd : (⟨b, off, none⟩ : Addr).add j = ⟨b, off + j, none⟩ := by unfold Addr.add; split <;> simp_all
  rw [hadd]
  have hl := flatT_length xs
  have h3 : j % 3 = 0 ∨ j % 3 = 1 ∨ j % 3 = 2 := by omega
  rcases h3 with e | e | e
  · have hk : j = (j / 3) * 3 := by omega
    have h0 := flatT_get0 xs (j / 3)
    rw [← hk, List.getD_eq_getElem?_getD, List.getElem?_eq_getElem hj] at h0
    have h1 := (hc (j / 3) (by omega)).1
    rw [show off + j / 3 * 3 = off + j by omega] at h1
    rw [h1]
    simp only [Option.getD_some] at h0
    rw [h0]
  · have hk : j = (j / 3) * 3 + 1 := by omega
    have h0 := flatT_get1 xs (j / 3)
    rw [← hk, List.getD_eq_getElem?_getD, List.getElem?_eq_getElem hj] at h0
    have h1 := (hc (j / 3) (by omega)).2.1
    rw [show off + j / 3 * 3 + 1 = off + j by omega] at h1
    rw [h1]
    simp only [Option.getD_some] at h0
    rw [h0]
  · have hk : j = (j / 3) * 3 + 2 := by omega
    have h0 := flatT_get2 xs (j / 3)
    rw [← hk, List.getD_eq_getElem?_getD, List.getElem?_eq_getElem hj] at h0
    have h1 := (hc (j / 3) (by omega)).2.2
    rw [show off + j / 3 * 3 + 2 = off + j by omega] at h1
    rw [h1]
    simp only [Option.getD_some] at h0
    rw [h0]

theorem run_append_trips {P : Program} {w : World} (t ty : TypeId) (B : Nat) (e : TypeId) (ht : P.underlying t = some (.slice e))
    (hi : (P.info? e).map (fun i => (i.zero, i.size, i.bytes)) = some (some (.agg #[.int .i64 0, .int .i64 0, .int .i64 0]), 3, 24)) (v x : Value) (xs ys : List Tri) (hI : Trips w B e v xs) (hx : SrcT w x ys)
    (hn : xs.length + ys.length ≤ 1000000000) (hB : B ≤ w.heap.size) :
    ∃ v' w', (Builtin.append_ #[t, t] ty #[v, x]).run P w = .ok v' w' ∧ Trips w' B e v' (xs ++ ys) ∧ w.grownBy w' v.ownBlock ∧ (v'.ownBlock = v.ownBlock ∨ v'.ownBlock = some w.heap.size) := by
  obtain ⟨i, hi, hz0, hz1, hz2⟩ := info_parts hi
  rcases hx with ⟨rfl, rfl⟩ | ⟨b, off, cap, rfl, hm, hm2, hc⟩
  · refine ⟨v, w, run_append_owned_none (P := P) (w := w) B t ty e i 3 ht hi v xs.length _ hI, by rw [List.append_nil]; exact hI, grownBy_refl _ _, .inl rfl⟩
  · obtain ⟨v', w', hr, h2, h3, _, h5⟩ := run_append_own_at (P := P) w B t ty e i (.agg #[.int .i64 0, .int .i64 0, .int .i64 0]) 3 24 ht hi hz0 hz1 hz2 rfl (by decide) v xs.length _ hI ⟨b, off, none⟩ ys.length cap ((flatT ys).map (Value.int .i64))
      (by simp [flatT_length]) (flatT_cells hc) (by intro u hu; obtain ⟨z, _, rfl⟩ := List.mem_map.1 hu; rfl) (by unfold maxLen; omega) (by omega) hB
    refine ⟨v', w', hr, ?_, h3, h5⟩
    unfold Trips
    rw [List.length_append, flatT_append, List.map_append]
    exact h2

/-- At the list of a region's operations. -/
theorem wpList_append_trips {P : Program} {w : World} {ops : Array Oper} {rest : List Oper} {o : Oper} {a : Act} {Q : Exit → Act → World → Prop} (hgd : o.guard = none) (s x : Operand) (t : TypeId)
    (ho : o.op = .call { callee := .builtin .append, args := #[s, x], argTypes := #[t, t] }) (B : Nat) (e : TypeId) (ht : P.underlying t = some (.slice e))
    (hi : (P.info? e).map (fun i => (i.zero, i.size, i.bytes)) = some (some (.agg #[.int .i64 0, .int .i64 0, .int .i64 0]), 3, 24)) (v u : Value) (xs ys : List Tri) (hs : a.eval s = v) (hu : a.eval x = u) (hI : Trips w B e v xs) (hx : SrcT w u ys)
    (hn : xs.length + ys.length ≤ 1000000000) (hB : B ≤ w.heap.size)
    (h : ∀ v' w', Trips w' B e v' (xs ++ ys) → w.grownBy w' v.ownBlock → (v'.ownBlock = v.ownBlock ∨ v'.ownBlock = some w.heap.size) → wpList P ops Q rest (a.put o.dst v') w') :
    wpList P ops Q (o :: rest) a w := by
  refine wpList_plain hgd fun K' hK => ?_
  obtain ⟨v', w', hr, h2, h3, h5⟩ := run_append_trips (P := P) (w := w) t o.type B e ht hi v u xs ys hI hx hn hB
  unfold Oper.wp execOp
  simp only [ho, resolve, invoke, builtin, Sem.run_bind, Sem.run_pure, Result.andThen_ok, List.map_toArray, List.map_cons, List.map_nil, hs, hu, hr]
  exact hK _ _ (h v' w' h2 h3 h5)

/-- A literal's own row. -/
theorem Trips.boxed (W : World) (B : Nat) (e : TypeId) (xs : List Tri) (hB : B ≤ W.heap.size) (hn : xs.length ≤ 1000000000) :
    Trips (W.alloc (.cells ((flatT xs).map (Value.int .i64)).toArray e)) B e (.slice (some ⟨W.heap.size, 0, none⟩) xs.length xs.length) xs := by
  refine ⟨by simp [flatT_length], .inr ⟨W.heap.size, xs.length, _, rfl, hB, heap_alloc_new W _, Nat.le_refl _, by unfold maxLen; omega, by simp [flatT_length], ?_⟩⟩
  rw [List.take_of_length_le (by simp [flatT_length])]

/-- What a row of the call's own holds can be read. -/
theorem Trips.src {w : World} {B : Nat} {e : TypeId} {v : Value} {xs : List Tri} (h : Trips w B e v xs) : SrcT w v xs := by
  have h0 := h
  obtain ⟨hl, ⟨hv, hn⟩ | ⟨g, cap, cur, hv, hB, hg, hn, hm, hs, ht⟩⟩ := h0
  · exact .inl ⟨hv, List.eq_nil_of_length_eq_zero hn⟩
  · subst hv
    exact .inr ⟨g, 0, cap, rfl, by omega, hm, fun i hi => ⟨by rw [Nat.zero_add]; exact h.cell0 i hi, by rw [Nat.zero_add]; exact h.cell1 i hi, by rw [Nat.zero_add]; exact h.cell2 i hi⟩⟩

theorem SrcT.form {w : World} {v : Value} {xs : List Tri} (h : SrcT w v xs) : ∃ a0 cap b off, v = .slice a0 xs.length cap ∧ (0 < xs.length → a0 = some ⟨b, off, none⟩) ∧ xs.length ≤ cap ∧ cap ≤ maxLen ∧
    ∀ i, i < xs.length → w.cell? ⟨b, off + i * 3, none⟩ = some (.int .i64 (xs.getD i noT).1) ∧ w.cell? ⟨b, off + i * 3 + 1, none⟩ = some (.int .i64 (xs.getD i noT).2.1) ∧ w.cell? ⟨b, off + i * 3 + 2, none⟩ = some (.int .i64 (xs.getD i noT).2.2) := by
  rcases h with ⟨rfl, rfl⟩ | ⟨b, off, cap, rfl, h1, h2, h3⟩
  · exact ⟨none, 0, 0, 0, rfl, by simp, by simp, by simp, by simp⟩
  · exact ⟨_, cap, b, off, rfl, fun _ => rfl, h1, h2, h3⟩

/-- 'list[i:j]' and 'list[i:j:k]' of a row that lies somewhere, behind the whole capacity the address stays. -/
theorem srcT_sub {w : World} {b off n cap c' i j : Nat} {xs : List Tri} (h : SrcT w (.slice (some ⟨b, off, none⟩) n cap) xs) (hij : i ≤ j) (hj : j ≤ xs.length) (hc : j - i ≤ c') (hc' : c' ≤ maxLen) :
    SrcT w (.slice (some ⟨b, off + i * 3, none⟩) (j - i) c') ((xs.take j).drop i) := by
  rcases h with ⟨h, _⟩ | ⟨b', off', c, hv, hm, hm2, hcl⟩
  · cases h
  · cases hv
    have hl : ((xs.take j).drop i).length = j - i := by simp; omega
    refine .inr ⟨b, off + i * 3, c', by rw [hl], by omega, hc', fun k hk => ?_⟩
    have h1 := hcl (i + k) (by omega)
    have h2 : ((xs.take j).drop i).getD k noT = xs.getD (i + k) noT := by rw [getD_drop, getD_take _ _ _ _ (by omega)]
    rw [h2, show off + i * 3 + k * 3 = off + (i + k) * 3 by omega, show off + (i + k) * 3 + 1 = off + (i + k) * 3 + 1 from rfl]
    exact h1

theorem srcT_none {w : World} {n c : Nat} {v : Value} (hv : v = .slice (some ⟨n, 0, none⟩) 0 c) (hc : c ≤ maxLen) : SrcT w v [] :=
  .inr ⟨n, 0, c, hv, Nat.zero_le _, hc, fun i hi => absurd hi (by simp)⟩

end Go.Proofs.Ytpliaenpencocab
