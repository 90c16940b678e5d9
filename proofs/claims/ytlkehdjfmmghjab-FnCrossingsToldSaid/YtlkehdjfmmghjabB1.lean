/- Slices of integers that a call made itself: what they hold. Nothing of the program. -/
import Derived.WalkKit
import Derived.WalkSpells
import Derived.WalkLawsBesides
import Derived.WalkSmall
import Derived.Lib.Hide
import Derived.Handy
import Derived.Deep.QuietTactic
import Derived.BigQuiet
import Derived.Deep.Onto
namespace Go.Proofs.Ytlkehdjfmmghjab
open Go.RowKit

theorem bcell {W w1 : World} (hb : Below W.heap.size W w1) : (∀ b o, b < W.heap.size → w1.cell? ⟨b, o, none⟩ = W.cell? ⟨b, o, none⟩) ∧ (∀ b o, b < W.heap.size → w1.frozen? ⟨b, o, none⟩ = W.frozen? ⟨b, o, none⟩) :=
  ⟨fun b o h => hb.cell (p := ⟨b, o, none⟩) h, fun b o h => hb.frozen (p := ⟨b, o, none⟩) h⟩

theorem bdn {B : Nat} {a w : World} (h : Below B a w) (n : Nat) : Below B a (w.drewN n) := ⟨h.os, h.tape, h.output, h.size, h.block⟩

theorem quietP {P : Program} {f : FuncId} {args : Array Value} {w : World} {n : Nat} {v : Value}
    (h : Calls P f args (w.drewN n) fun e w' => e = .returned v ∧ w.drewN n = w') : Calls P f args (w.drewN n) fun e w'' => e = .returned v ∧ ∃ m, w'' = w.drewN m :=
  h.mono fun _ _ ⟨he, hm⟩ => ⟨he, n, hm.symm⟩

/-- The slice v, made since the heap had B blocks, holds the integers xs. -/
def Ints (w : World) (B : Nat) (e : TypeId) (v : Value) (xs : List Int) : Prop := w.ownsRow B e 1 v xs.length (xs.map (Value.int .i64))

theorem Ints.view {w : World} {B : Nat} {e : TypeId} {v : Value} {xs : List Int} (h : Ints w B e v xs) :
    ∃ (a0 : Option Addr) (cap g : Nat), v = .slice a0 xs.length cap ∧ (0 < xs.length → a0 = some ⟨g, 0, none⟩) ∧ (a0 = none ∨ a0 = some ⟨g, 0, none⟩) ∧ xs.length ≤ maxLen ∧ (0 < xs.length → B ≤ g ∧ g < w.heap.size) ∧
      (∀ i, i < xs.length → w.cell? ⟨g, i, none⟩ = some (.int .i64 (xs.getD i 0))) ∧ (∀ i, 0 < xs.length → w.frozen? ⟨g, i, none⟩ = false) := by
  have h0 := h
  obtain ⟨hl, h1 | ⟨g, cap, cur, hv, hB, hg, hn, hm, hs, ht⟩⟩ := h0
  · obtain ⟨hv, hn⟩ := h1
    exact ⟨none, 0, 0, by rw [hn]; exact hv, fun h => by omega, .inl rfl, by omega, fun h => by omega, fun i hi => by omega, fun i hi => by omega⟩
  · subst hv
    refine ⟨some ⟨g, 0, none⟩, cap, g, rfl, fun _ => rfl, .inr rfl, by omega, fun _ => ⟨hB, (Array.getElem?_eq_some_iff.1 hg).1⟩, fun i hi => ?_, fun i _ => h.frozenAt i⟩
    rw [h.cellAt i (by omega)]
    simp [List.getElem?_map, List.getElem?_eq_getElem hi, List.getD]

theorem Ints.kept {w w' : World} {B : Nat} {e : TypeId} {v : Value} {xs : List Int} {row : Option Nat} (h : Ints w B e v xs) (hg : w.grownBy w' row) (hne : v.ownBlock = none ∨ v.ownBlock ≠ row) : Ints w' B e v xs :=
  World.ownsRow.kept h hg hne

theorem Below.by {w w' : World} (h : Below w.heap.size w w') : w.grownBy w' none :=
  ⟨h.os, h.tape, h.output, h.size, fun k hk _ => h.block k hk⟩

theorem Ints.later {w w' : World} {B : Nat} {e : TypeId} {v : Value} {xs : List Int} (h : Ints w B e v xs) (hb : Below w.heap.size w w') : Ints w' B e v xs :=
  h.kept (Below.by hb) (by cases hv : v.ownBlock with | none => exact .inl rfl | some k => exact .inr (by simp))

theorem Ints.mono {w : World} {B B' : Nat} {e : TypeId} {v : Value} {xs : List Int} (h : Ints w B e v xs) (hb : B' ≤ B) : Ints w B' e v xs := World.ownsRow.mono h hb

theorem Ints.drewN {w : World} {B : Nat} {e : TypeId} {v : Value} {xs : List Int} (h : Ints w B e v xs) (n : Nat) : Ints (w.drewN n) B e v xs := h

theorem Ints.cellAt {w : World} {B g n cap : Nat} {e : TypeId} {xs : List Int} (h : Ints w B e (.slice (some ⟨g, 0, none⟩) n cap) xs) (i : Nat) (hi : i < xs.length) : w.cell? ⟨g, i, none⟩ = some (.int .i64 (xs.getD i 0)) := by
  have hn : n = xs.length := by
    rcases h.2 with ⟨hv, _⟩ | ⟨_, _, _, hv, _⟩
    · cases hv
    · cases hv; rfl
  subst hn
  rw [World.ownsRow.cellAt h i (by omega)]
  simp [List.getElem?_map, List.getElem?_eq_getElem hi, List.getD]

theorem Ints.frozenAt {w : World} {B g n cap : Nat} {e : TypeId} {xs : List Int} (h : Ints w B e (.slice (some ⟨g, 0, none⟩) n cap) xs) (i : Nat) : w.frozen? ⟨g, i, none⟩ = false := by
  have hn : n = xs.length := by
    rcases h.2 with ⟨hv, _⟩ | ⟨_, _, _, hv, _⟩
    · cases hv
    · cases hv; rfl
  subst hn
  exact World.ownsRow.frozenAt h i

/-- The marks m, m + 1, .. -/
def marks (m : Int) (n : Nat) : List Int := (List.range n).map fun (i : Nat) => m + (i : Int)

theorem marks_length (m : Int) (n : Nat) : (marks m n).length = n := by simp [marks]

theorem marks_get (m : Int) (n i : Nat) (h : i < n) : (marks m n).getD i 0 = m + (i : Int) := by
  simp [marks, List.getD, List.getElem?_map, List.getElem?_range h]

/-- The marks are laid up to k. -/
def markedTo (m : Int) (xs : List Int) (k : Nat) : List Int := marks m k ++ xs.drop k

theorem markedTo_zero (m : Int) (xs : List Int) : markedTo m xs 0 = xs := by simp [markedTo, marks]

theorem markedTo_all (m : Int) (xs : List Int) : markedTo m xs xs.length = marks m xs.length := by simp [markedTo]

theorem markedTo_length (m : Int) (xs : List Int) (k : Nat) (h : k ≤ xs.length) : (markedTo m xs k).length = xs.length := by
  simp [markedTo, marks_length]; omega

theorem markedTo_set (m : Int) (xs : List Int) (k : Nat) (h : k < xs.length) : (markedTo m xs k).set k (m + (k : Int)) = markedTo m xs (k + 1) := by
  unfold markedTo
  rw [List.set_append_right _ _ (by simp [marks_length])]
  rw [marks_length, Nat.sub_self, List.drop_eq_getElem_cons h, List.set_cons_zero]
  simp [marks, List.range_succ]

theorem Ints.stored {w : World} {B g n cap : Nat} {e : TypeId} {xs : List Int} (h : Ints w B e (.slice (some ⟨g, 0, none⟩) n cap) xs) (j : Nat) (x : Int) :
    Ints (w.setCell ⟨g, j, none⟩ (.int .i64 x)) B e (.slice (some ⟨g, 0, none⟩) n cap) (xs.set j x) ∧ w.grownBy (w.setCell ⟨g, j, none⟩ (.int .i64 x)) (some g) := by
  have hn : n = xs.length := by
    rcases h.2 with ⟨hv, _⟩ | ⟨_, _, _, hv, _⟩
    · cases hv
    · cases hv; rfl
  subst hn
  have := World.ownsRow.stored h j (.int .i64 x)
  unfold Ints
  rw [List.length_set, List.map_set]
  exact this

theorem grownBy_trans {w w1 w2 : World} {row : Option Nat} (h1 : w.grownBy w1 row) (h2 : w1.grownBy w2 row) : w.grownBy w2 row :=
  ⟨h2.os.trans h1.os, h2.tape.trans h1.tape, h2.output.trans h1.output, Nat.le_trans h1.size h2.size,
    fun k hk hr => (h2.block k (Nat.lt_of_lt_of_le hk h1.size) hr).trans (h1.block k hk hr)⟩

theorem grownBy_refl (w : World) (row : Option Nat) : w.grownBy w row := ⟨rfl, rfl, rfl, Nat.le_refl _, fun _ _ _ => rfl⟩

theorem grownBy_drewN {w w1 : World} {row : Option Nat} (h : w.grownBy w1 row) (n : Nat) : w.grownBy (w1.drewN n) row :=
  ⟨h.os, h.tape, h.output, h.size, h.block⟩

/-- What is written lies above B: below nothing has changed. -/
theorem Below.marked {w0 w w' : World} {B : Nat} {v : Value} (hb : Below B w0 w) (hB : B ≤ w.heap.size) (hg : w.grownBy w' v.ownBlock) (hv : ∀ k, v.ownBlock = some k → B ≤ k) : Below B w0 w' :=
  hb.grown hg hB hv

theorem Ints.own {w : World} {B : Nat} {e : TypeId} {v : Value} {xs : List Int} (h : Ints w B e v xs) : ∀ k, v.ownBlock = some k → B ≤ k ∧ k < w.heap.size := World.ownsRow.lt h

/-- n new zeros. -/
def zeroInts (n : Nat) : Array Value := madeCells #[Value.int .i64 0] n

theorem zeroInts_list (n : Nat) : (zeroInts n).toList = (List.replicate n (0 : Int)).map (Value.int .i64) := by
  apply List.ext_getElem?
  intro i
  by_cases h : i < n
  · simp [zeroInts, madeCells, h, Nat.mod_one]
  · simp [zeroInts, madeCells, h]

theorem make_ints {P : Program} {t e : TypeId} (ht : P.underlying t = some (.slice e)) (hi : (P.info? e).map (fun i => (i.zero, i.size, i.bytes)) = some (some (.int .i64 0), 1, 8)) (n : Nat) (hn : n ≤ 1000000000) :
    ∀ W : World, (Instr.makeSlice t (.int .i64 (n : Int)) (.int .i64 (n : Int))).run P W = .ok (.slice (some ⟨W.heap.size, 0, none⟩) n n) (W.alloc (.cells (zeroInts n) e)) := by
  intro W
  obtain ⟨i, hi, hz0, hz1, hz2⟩ := info_parts hi
  have := run_make (P := P) W t e i (.int .i64 0) ht hi hz0 .i64 .i64 (n : Int) (n : Int) (by omega) (Int.le_refl _) (by rw [hz2]; omega) (by omega)
  rw [this, hz1]
  simp [zeroInts, Value.cells]

theorem Ints.made (W : World) (B : Nat) (e : TypeId) (n : Nat) (hB : B ≤ W.heap.size) (hn : n ≤ 1000000000) :
    Ints (W.alloc (.cells (zeroInts n) e)) B e (.slice (some ⟨W.heap.size, 0, none⟩) n n) (List.replicate n 0) := by
  refine ⟨by simp, .inr ⟨W.heap.size, n, zeroInts n, by simp, hB, heap_alloc_new W _, by simp, by unfold maxLen; omega, by simp [zeroInts, size_madeCells], ?_⟩⟩
  rw [zeroInts_list]
  simp

/-- The first j of n places are filled by f, the others hold 0. -/
def fillTo (f : Nat → Int) (n j : Nat) : List Int := (List.range j).map f ++ List.replicate (n - j) 0

theorem fillTo_zero (f : Nat → Int) (n : Nat) : fillTo f n 0 = List.replicate n 0 := by simp [fillTo]

theorem fillTo_all (f : Nat → Int) (n : Nat) : fillTo f n n = (List.range n).map f := by simp [fillTo]

theorem fillTo_length (f : Nat → Int) (n j : Nat) (h : j ≤ n) : (fillTo f n j).length = n := by simp [fillTo]; omega

theorem fillTo_set (f : Nat → Int) (n j : Nat) (h : j < n) : (fillTo f n j).set j (f j) = fillTo f n (j + 1) := by
  unfold fillTo
  rw [List.set_append_right _ _ (by simp)]
  have : n - j = (n - (j + 1)) + 1 := by omega
  rw [this, List.replicate_succ]
  simp [List.range_succ]

/-- 'append(out, y)' onto integers of the call's own. -/
theorem wpList_append_int {P : Program} {wr : World} {ops : Array Oper} {rest : List Oper} {o : Oper} {a : Act} {Q : Exit → Act → World → Prop} (hgd : o.guard = none) (s x : Operand) (t : TypeId)
    (ho : o.op = .call { callee := .builtin .append, args := #[s, x], argTypes := #[t, t] }) (base : Nat) (e : TypeId) (ht : P.underlying t = some (.slice e))
    (hi : (P.info? e).map (fun i => (i.zero, i.size, i.bytes)) = some (some (.int .i64 0), 1, 8)) (v : Value) (xs : List Int) (hs : a.eval s = v) (hI : Ints wr base e v xs) (y : Int)
    (hx : a.eval x = .slice (some ⟨wr.heap.size, 0, none⟩) 1 1) (hn : xs.length < 1000000000) (hbase : base ≤ wr.heap.size)
    (h : ∀ v' w', Ints w' base e v' (xs ++ [y]) → wr.grownBy w' v.ownBlock → wpList P ops Q rest (a.put o.dst v') w') :
    wpList P ops Q (o :: rest) a (wr.alloc (.cells #[.int .i64 y] e)) := by
  obtain ⟨i, hi, hz0, hz1, hz2⟩ := info_parts hi
  refine wpList_append_own _ hgd s x t ho base e i (.int .i64 0) 1 8 ht hi hz0 hz1 hz2 rfl (by decide) v xs.length _ hs (World.ownsRow.alloc hI _) ⟨wr.heap.size, 0, none⟩ 1 1 [.int .i64 y] hx rfl ?_ ?_ (by unfold maxLen; omega) (by omega) (by simp; omega) ?_
  · exact cell_one_new _ _ _
  · intro u hu
    simp at hu
    subst hu
    rfl
  · intro v' w' h1 h2 _
    refine h v' w' ?_ (grownBy_trans (World.grownBy_alloc _ _ _) h2)
    have e1 : (xs ++ [y]).length = xs.length + 1 := by simp
    unfold Ints
    rw [e1, List.map_append]
    exact h1

theorem Ints.below {w0 w w' : World} {B : Nat} {e : TypeId} {v : Value} {xs : List Int} (h : Ints w B e v xs) (hb : Below B w0 w) (hB : B ≤ w.heap.size) (hg : w.grownBy w' v.ownBlock) : Below B w0 w' :=
  hb.grown hg hB fun k hk => (h.own k hk).1

/-- A literal's own row: '[]int{..}'. -/
theorem Ints.boxed (W : World) (B : Nat) (e : TypeId) (xs : List Int) (hB : B ≤ W.heap.size) (hn : xs.length ≤ 1000000000) :
    Ints (W.alloc (.cells (xs.map (Value.int .i64)).toArray e)) B e (.slice (some ⟨W.heap.size, 0, none⟩) xs.length xs.length) xs := by
  refine ⟨by simp, .inr ⟨W.heap.size, xs.length, _, rfl, hB, heap_alloc_new W _, Nat.le_refl _, by unfold maxLen; omega, by simp, ?_⟩⟩
  rw [List.take_of_length_le (by simp)]

end Go.Proofs.Ytlkehdjfmmghjab
