/- Slices of pairs: made, and one more appended. Nothing of the program. -/
import Derived.Test.YtlkehdjfmmghjabP1
namespace Go.Proofs.Ytlkehdjfmmghjab
open Go.RowKit

def zeroPairs (n : Nat) : Array Value := madeCells #[Value.int .i64 0, Value.int .i64 0] (n * 2)

theorem flatP_zeros (n : Nat) : flatP (List.replicate n (0, 0)) = List.replicate (n * 2) 0 := by
  induction n with
  | zero => rfl
  | succ n ih =>
    rw [List.replicate_succ, show (n + 1) * 2 = n * 2 + 1 + 1 by omega, List.replicate_succ, List.replicate_succ]
    simp [flatP, ih]

theorem zeroPairs_list (n : Nat) : (zeroPairs n).toList = (flatP (List.replicate n (0, 0))).map (Value.int .i64) := by
  rw [flatP_zeros]
  apply List.ext_getElem?
  intro i
  by_cases h : i < n * 2
  · rcases Nat.mod_two_eq_zero_or_one i with e | e <;> simp [zeroPairs, madeCells, h, e]
  · simp [zeroPairs, madeCells, h]

theorem make_pairs {P : Program} {t e : TypeId} (ht : P.underlying t = some (.slice e)) (hi : (P.info? e).map (fun i => (i.zero, i.size, i.bytes)) = some (some (.agg #[.int .i64 0, .int .i64 0]), 2, 16)) (n : Nat) (hn : n ≤ 1000000000) :
    ∀ W : World, (Instr.makeSlice t (.int .i64 (n : Int)) (.int .i64 (n : Int))).run P W = .ok (.slice (some ⟨W.heap.size, 0, none⟩) n n) (W.alloc (.cells (zeroPairs n) e)) := by
  intro W
  obtain ⟨i, hi, hz0, hz1, hz2⟩ := info_parts hi
  have := run_make (P := P) W t e i (.agg #[.int .i64 0, .int .i64 0]) ht hi hz0 .i64 .i64 (n : Int) (n : Int) (by omega) (Int.le_refl _) (by rw [hz2]; omega) (by omega)
  rw [this, hz1]
  simp [zeroPairs, Value.cells]

/-- 'make([]T, 0, n)' -/
theorem make_pairs0 {P : Program} {t e : TypeId} (ht : P.underlying t = some (.slice e)) (hi : (P.info? e).map (fun i => (i.zero, i.size, i.bytes)) = some (some (.agg #[.int .i64 0, .int .i64 0]), 2, 16)) (n : Nat) (hn : n ≤ 1000000000) :
    ∀ W : World, (Instr.makeSlice t (.int .i64 0) (.int .i64 (n : Int))).run P W = .ok (.slice (some ⟨W.heap.size, 0, none⟩) 0 n) (W.alloc (.cells (zeroPairs n) e)) := by
  intro W
  obtain ⟨i, hi, hz0, hz1, hz2⟩ := info_parts hi
  have := run_make (P := P) W t e i (.agg #[.int .i64 0, .int .i64 0]) ht hi hz0 .i64 .i64 0 (n : Int) (by omega) (by omega) (by rw [hz2]; omega) (by omega)
  rw [this, hz1]
  simp [zeroPairs, Value.cells]

theorem zeroPairs_size (n : Nat) : (zeroPairs n).size = n * 2 := by simp [zeroPairs, size_madeCells]

theorem Pairs.made (W : World) (B : Nat) (e : TypeId) (n : Nat) (hB : B ≤ W.heap.size) (hn : n ≤ 1000000000) :
    Pairs (W.alloc (.cells (zeroPairs n) e)) B e (.slice (some ⟨W.heap.size, 0, none⟩) n n) (List.replicate n (0, 0)) := by
  refine ⟨by simp [flatP_length], .inr ⟨W.heap.size, n, zeroPairs n, by simp, hB, heap_alloc_new W _, by simp, by unfold maxLen; omega, zeroPairs_size n, ?_⟩⟩
  rw [zeroPairs_list, List.take_of_length_le (by simp [flatP_length])]

theorem Pairs.made0 (W : World) (B : Nat) (e : TypeId) (n : Nat) (hB : B ≤ W.heap.size) (hn : n ≤ 1000000000) :
    Pairs (W.alloc (.cells (zeroPairs n) e)) B e (.slice (some ⟨W.heap.size, 0, none⟩) 0 n) [] := by
  refine ⟨by simp [flatP], .inr ⟨W.heap.size, n, zeroPairs n, by simp, hB, heap_alloc_new W _, by simp, by unfold maxLen; omega, zeroPairs_size n, ?_⟩⟩
  simp [flatP]

/-- Both cells of an element are stored. -/
theorem Pairs.stored {w : World} {B g n cap : Nat} {e : TypeId} {xs : List (Int × Int)} (h : Pairs w B e (.slice (some ⟨g, 0, none⟩) n cap) xs) (j : Nat) (hj : j < xs.length) (x y : Int) :
    Pairs ((w.setCell ⟨g, j * 2, none⟩ (.int .i64 x)).setCell ⟨g, j * 2 + 1, none⟩ (.int .i64 y)) B e (.slice (some ⟨g, 0, none⟩) n cap) (xs.set j (x, y)) ∧ w.grownBy ((w.setCell ⟨g, j * 2, none⟩ (.int .i64 x)).setCell ⟨g, j * 2 + 1, none⟩ (.int .i64 y)) (some g) := by
  have s0 := h.stored0 j x
  have s1 := s0.1.stored1 j y
  have e1 : (xs.set j (x, (xs.getD j (0, 0)).2)).set j (((xs.set j (x, (xs.getD j (0, 0)).2)).getD j (0, 0)).1, y) = xs.set j (x, y) := by
    rw [List.set_set, List.getD_eq_getElem?_getD (l := xs.set j _), List.getElem?_set_self hj]
    rfl
  rw [e1] at s1
  exact ⟨s1.1, grownBy_trans s0.2 s1.2⟩

/-- 'append(out, T{x, y})' onto pairs of the call's own. -/
theorem wpList_append_pair {P : Program} {wr : World} {ops : Array Oper} {rest : List Oper} {o : Oper} {a : Act} {Q : Exit → Act → World → Prop} (hgd : o.guard = none) (s x : Operand) (t : TypeId)
    (ho : o.op = .call { callee := .builtin .append, args := #[s, x], argTypes := #[t, t] }) (base : Nat) (e : TypeId) (ht : P.underlying t = some (.slice e))
    (hi : (P.info? e).map (fun i => (i.zero, i.size, i.bytes)) = some (some (.agg #[.int .i64 0, .int .i64 0]), 2, 16)) (v : Value) (xs : List (Int × Int)) (hs : a.eval s = v) (hI : Pairs wr base e v xs) (y z : Int)
    (hx : a.eval x = .slice (some ⟨wr.heap.size, 0, none⟩) 1 1) (hn : xs.length < 1000000000) (hbase : base ≤ wr.heap.size)
    (h : ∀ v' w', Pairs w' base e v' (xs ++ [(y, z)]) → wr.grownBy w' v.ownBlock → wpList P ops Q rest (a.put o.dst v') w') :
    wpList P ops Q (o :: rest) a (wr.alloc (.cells #[.int .i64 y, .int .i64 z] e)) := by
  obtain ⟨i, hi, hz0, hz1, hz2⟩ := info_parts hi
  refine wpList_append_own _ hgd s x t ho base e i (.agg #[.int .i64 0, .int .i64 0]) 2 16 ht hi hz0 hz1 hz2 rfl (by decide) v xs.length _ hs (World.ownsRow.alloc hI _) ⟨wr.heap.size, 0, none⟩ 1 1 [.int .i64 y, .int .i64 z] hx rfl ?_ ?_ (by unfold maxLen; omega) (by omega) (by simp; omega) ?_
  · intro j u hu
    match j with
    | 0 =>
      simp at hu
      subst hu
      exact cell_of_row _ wr.heap.size 0 #[.int .i64 y, .int .i64 z] e _ (heap_alloc_new wr _)
    | 1 =>
      simp at hu
      subst hu
      exact cell_of_row _ wr.heap.size 1 #[.int .i64 y, .int .i64 z] e _ (heap_alloc_new wr _)
    | j + 2 => simp at hu
  · intro u hu
    simp at hu
    rcases hu with rfl | rfl <;> rfl
  · intro v' w' h1 h2 _
    refine h v' w' ?_ (grownBy_trans (World.grownBy_alloc _ _ _) h2)
    have e1 : (xs ++ [(y, z)]).length = xs.length + 1 := by simp
    unfold Pairs
    rw [e1, flatP_append, List.map_append]
    exact h1

theorem Pairs.later {w w' : World} {B : Nat} {e : TypeId} {v : Value} {xs : List (Int × Int)} (h : Pairs w B e v xs) (hb : Below w.heap.size w w') : Pairs w' B e v xs :=
  World.ownsRow.kept h (Below.by hb) (by cases hv : v.ownBlock with | none => exact .inl rfl | some k => exact .inr (by simp))

theorem Pairs.mono {w : World} {B B' : Nat} {e : TypeId} {v : Value} {xs : List (Int × Int)} (h : Pairs w B e v xs) (hb : B' ≤ B) : Pairs w B' e v xs := World.ownsRow.mono h hb

theorem Pairs.below {w0 w w' : World} {B : Nat} {e : TypeId} {v : Value} {xs : List (Int × Int)} (h : Pairs w B e v xs) (hb : Below B w0 w) (hB : B ≤ w.heap.size) (hg : w.grownBy w' v.ownBlock) : Below B w0 w' :=
  hb.grown hg hB fun k hk => (h.own k hk).1

theorem PairsIn.wider {e : TypeId} {w : World} {B T B' T' : Nat} {v : Value} {xs : List (Int × Int)} (h : PairsIn e w B T v xs) (hB : B' ≤ B) (hT : T ≤ T') : PairsIn e w B' T' v xs :=
  ⟨h.1.mono hB, fun k hk => Nat.lt_of_lt_of_le (h.2 k hk) hT⟩

end Go.Proofs.Ytlkehdjfmmghjab
