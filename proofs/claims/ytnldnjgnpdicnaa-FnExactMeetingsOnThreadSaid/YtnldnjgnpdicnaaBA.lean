/- BA: B1, B2, B3, B4, B5, B6, P1, P2, P3, P5, P6, X1, one after the other. -/
import Derived.WalkKit
import Derived.WalkSpells
import Derived.WalkLawsBesides
import Derived.WalkSmall
import Derived.Lib.Hide
import Derived.Handy
import Derived.Deep.QuietTactic
import Derived.BigQuiet
import Derived.Deep.Onto
import Derived.Deep.RegionHeld3
import Derived.Maps.AppendAt
import Derived.Laws.AppendOwnNone
namespace Go.Proofs.Ytnldnjgnpdicnaa
open Go.RowKit

theorem bcell {W w1 : World} (hb : Below W.heap.size W w1) : (∀ b o, b < W.heap.size → w1.cell? ⟨b, o, none⟩ = W.cell? ⟨b, o, none⟩) ∧ (∀ b o, b < W.heap.size → w1.frozen? ⟨b, o, none⟩ = W.frozen? ⟨b, o, none⟩) :=
  ⟨fun b o h => hb.cell (p := ⟨b, o, none⟩) h, fun b o h => hb.frozen (p := ⟨b, o, none⟩) h⟩

theorem bdn {B : Nat} {a w : World} (h : Below B a w) (n : Nat) : Below B a (w.drewN n) := ⟨h.os, h.tape, h.output, h.size, h.block⟩

theorem quietP {P : Program} {f : FuncId} {args : Array Value} {w : World} {n : Nat} {v : Value}
    (h : Calls P f args (w.drewN n) fun e w' => e = .returned v ∧ w.drewN n = w') : Calls P f args (w.drewN n) fun e w'' => e = .returned v ∧ ∃ m, w'' = w.drewN m :=
  h.mono fun _ _ ⟨he, hm⟩ => ⟨he, n, hm.symm⟩

/-- The slice v, made since the heap had B blocks, holds the integers xs. -/
def Ints (w : World) (B : Nat) (e : TypeId) (v : Value) (xs : List Int) : Prop := w.ownsRow B e 1 v xs.length (xs.map (Value.int .i64))

theorem Ints.view {w : World} {B : Nat} {e : TypeId} {v : Value} {xs : List Int} (h : Ints w B e v xs) :
    ∃ (a0 : Option Addr) (cap g : Nat), v = .slice a0 xs.length cap ∧ (0 < xs.length → a0 = some ⟨g, 0, none⟩) ∧ (a0 = none ∨ a0 = some ⟨g, 0, none⟩) ∧ xs.length ≤ maxLen ∧ (0 < xs.length → B ≤ g ∧ g < w.heap.size) ∧
      (∀ i, i < xs.length → w.cell? ⟨g, i, none⟩ = some (.int .i64 (xs.getD i 0))) ∧ (∀ i, 0 < xs.length → w.frozen? ⟨g, i, none⟩ = false) := by
  have h0 := h
  obtain ⟨hl, h1 | ⟨g, cap, cur, hv, hB, hg, hn, hm, hs, ht⟩⟩ := h0
  · obtain ⟨hv, hn⟩ := h1
    exact ⟨none, 0, 0, by rw [hn]; exact hv, fun h => by omega, .inl rfl, by omega, fun h => by omega, fun i hi => by omega, fun i hi => by omega⟩
  · subst hv
    refine ⟨some ⟨g, 0, none⟩, cap, g, rfl, fun _ => rfl, .inr rfl, by omega, fun _ => ⟨hB, (Array.getElem?_eq_some_iff.1 hg).1⟩, fun i hi => ?_, fun i _ => h.frozenAt i⟩
    rw [h.cellAt i (by omega)]
    simp [List.getElem?_map, List.getElem?_eq_getElem hi, List.getD]

theorem Ints.kept {w w' : World} {B : Nat} {e : TypeId} {v : Value} {xs : List Int} {row : Option Nat} (h : Ints w B e v xs) (hg : w.grownBy w' row) (hne : v.ownBlock = none ∨ v.ownBlock ≠ row) : Ints w' B e v xs :=
  World.ownsRow.kept h hg hne

theorem Below.by {w w' : World} (h : Below w.heap.size w w') : w.grownBy w' none :=
  ⟨h.os, h.tape, h.output, h.size, fun k hk _ => h.block k hk⟩

theorem Ints.later {w w' : World} {B : Nat} {e : TypeId} {v : Value} {xs : List Int} (h : Ints w B e v xs) (hb : Below w.heap.size w w') : Ints w' B e v xs :=
  h.kept (Below.by hb) (by cases hv : v.ownBlock with | none => exact .inl rfl | some k => exact .inr (by simp))

theorem Ints.mono {w : World} {B B' : Nat} {e : TypeId} {v : Value} {xs : List Int} (h : Ints w B e v xs) (hb : B' ≤ B) : Ints w B' e v xs := World.ownsRow.mono h hb

theorem Ints.drewN {w : World} {B : Nat} {e : TypeId} {v : Value} {xs : List Int} (h : Ints w B e v xs) (n : Nat) : Ints (w.drewN n) B e v xs := h

theorem Ints.cellAt {w : World} {B g n cap : Nat} {e : TypeId} {xs : List Int} (h : Ints w B e (.slice (some ⟨g, 0, none⟩) n cap) xs) (i : Nat) (hi : i < xs.length) : w.cell? ⟨g, i, none⟩ = some (.int .i64 (xs.getD i 0)) := by
  have hn : n = xs.length := by
    rcases h.2 with ⟨hv, _⟩ | ⟨_, _, _, hv, _⟩
    · cases hv
    · cases hv; rfl
  subst hn
  rw [World.ownsRow.cellAt h i (by omega)]
  simp [List.getElem?_map, List.getElem?_eq_getElem hi, List.getD]

theorem Ints.frozenAt {w : World} {B g n cap : Nat} {e : TypeId} {xs : List Int} (h : Ints w B e (.slice (some ⟨g, 0, none⟩) n cap) xs) (i : Nat) : w.frozen? ⟨g, i, none⟩ = false := by
  have hn : n = xs.length := by
    rcases h.2 with ⟨hv, _⟩ | ⟨_, _, _, hv, _⟩
    · cases hv
    · cases hv; rfl
  subst hn
  exact World.ownsRow.frozenAt h i

/-- The marks m, m + 1, .. -/
def marks (m : Int) (n : Nat) : List Int := (List.range n).map fun (i : Nat) => m + (i : Int)

theorem marks_length (m : Int) (n : Nat) : (marks m n).length = n := by simp [marks]

theorem marks_get (m : Int) (n i : Nat) (h : i < n) : (marks m n).getD i 0 = m + (i : Int) := by
  simp [marks, List.getD, List.getElem?_map, List.getElem?_range h]

/-- The marks are laid up to k. -/
def markedTo (m : Int) (xs : List Int) (k : Nat) : List Int := marks m k ++ xs.drop k

theorem markedTo_zero (m : Int) (xs : List Int) : markedTo m xs 0 = xs := by simp [markedTo, marks]

theorem markedTo_all (m : Int) (xs : List Int) : markedTo m xs xs.length = marks m xs.length := by simp [markedTo]

theorem markedTo_length (m : Int) (xs : List Int) (k : Nat) (h : k ≤ xs.length) : (markedTo m xs k).length = xs.length := by
  simp [markedTo, marks_length]; omega

theorem markedTo_set (m : Int) (xs : List Int) (k : Nat) (h : k < xs.length) : (markedTo m xs k).set k (m + (k : Int)) = markedTo m xs (k + 1) := by
  unfold markedTo
  rw [List.set_append_right _ _ (by simp [marks_length])]
  rw [marks_length, Nat.sub_self, List.drop_eq_getElem_cons h, List.set_cons_zero]
  simp [marks, List.range_succ]

theorem Ints.stored {w : World} {B g n cap : Nat} {e : TypeId} {xs : List Int} (h : Ints w B e (.slice (some ⟨g, 0, none⟩) n cap) xs) (j : Nat) (x : Int) :
    Ints (w.setCell ⟨g, j, none⟩ (.int .i64 x)) B e (.slice (some ⟨g, 0, none⟩) n cap) (xs.set j x) ∧ w.grownBy (w.setCell ⟨g, j, none⟩ (.int .i64 x)) (some g) := by
  have hn : n = xs.length := by
    rcases h.2 with ⟨hv, _⟩ | ⟨_, _, _, hv, _⟩
    · cases hv
    · cases hv; rfl
  subst hn
  have := World.ownsRow.stored h j (.int .i64 x)
  unfold Ints
  rw [List.length_set, List.map_set]
  exact this

theorem grownBy_trans {w w1 w2 : World} {row : Option Nat} (h1 : w.grownBy w1 row) (h2 : w1.grownBy w2 row) : w.grownBy w2 row :=
  ⟨h2.os.trans h1.os, h2.tape.trans h1.tape, h2.output.trans h1.output, Nat.le_trans h1.size h2.size,
    fun k hk hr => (h2.block k (Nat.lt_of_lt_of_le hk h1.size) hr).trans (h1.block k hk hr)⟩

theorem grownBy_refl (w : World) (row : Option Nat) : w.grownBy w row := ⟨rfl, rfl, rfl, Nat.le_refl _, fun _ _ _ => rfl⟩

theorem grownBy_drewN {w w1 : World} {row : Option Nat} (h : w.grownBy w1 row) (n : Nat) : w.grownBy (w1.drewN n) row :=
  ⟨h.os, h.tape, h.output, h.size, h.block⟩

/-- What is written lies above B: below nothing has changed. -/
theorem Below.marked {w0 w w' : World} {B : Nat} {v : Value} (hb : Below B w0 w) (hB : B ≤ w.heap.size) (hg : w.grownBy w' v.ownBlock) (hv : ∀ k, v.ownBlock = some k → B ≤ k) : Below B w0 w' :=
  hb.grown hg hB hv

theorem Ints.own {w : World} {B : Nat} {e : TypeId} {v : Value} {xs : List Int} (h : Ints w B e v xs) : ∀ k, v.ownBlock = some k → B ≤ k ∧ k < w.heap.size := World.ownsRow.lt h

/-- n new zeros. -/
def zeroInts (n : Nat) : Array Value := madeCells #[Value.int .i64 0] n

theorem zeroInts_list (n : Nat) : (zeroInts n).toList = (List.replicate n (0 : Int)).map (Value.int .i64) := by
  apply List.ext_getElem?
  intro i
  by_cases h : i < n
  · simp [zeroInts, madeCells, h, Nat.mod_one]
  · simp [zeroInts, madeCells, h]

theorem make_ints {P : Program} {t e : TypeId} (ht : P.underlying t = some (.slice e)) (hi : (P.info? e).map (fun i => (i.zero, i.size, i.bytes)) = some (some (.int .i64 0), 1, 8)) (n : Nat) (hn : n ≤ 1000000000) :
    ∀ W : World, (Instr.makeSlice t (.int .i64 (n : Int)) (.int .i64 (n : Int))).run P W = .ok (.slice (some ⟨W.heap.size, 0, none⟩) n n) (W.alloc (.cells (zeroInts n) e)) := by
  intro W
  obtain ⟨i, hi, hz0, hz1, hz2⟩ := info_parts hi
  have := run_make (P := P) W t e i (.int .i64 0) ht hi hz0 .i64 .i64 (n : Int) (n : Int) (by omega) (Int.le_refl _) (by rw [hz2]; omega) (by omega)
  rw [this, hz1]
  simp [zeroInts, Value.cells]

theorem Ints.made (W : World) (B : Nat) (e : TypeId) (n : Nat) (hB : B ≤ W.heap.size) (hn : n ≤ 1000000000) :
    Ints (W.alloc (.cells (zeroInts n) e)) B e (.slice (some ⟨W.heap.size, 0, none⟩) n n) (List.replicate n 0) := by
  refine ⟨by simp, .inr ⟨W.heap.size, n, zeroInts n, by simp, hB, heap_alloc_new W _, by simp, by unfold maxLen; omega, by simp [zeroInts, size_madeCells], ?_⟩⟩
  rw [zeroInts_list]
  simp

/-- The first j of n places are filled by f, the others hold 0. -/
def fillTo (f : Nat → Int) (n j : Nat) : List Int := (List.range j).map f ++ List.replicate (n - j) 0

theorem fillTo_zero (f : Nat → Int) (n : Nat) : fillTo f n 0 = List.replicate n 0 := by simp [fillTo]

theorem fillTo_all (f : Nat → Int) (n : Nat) : fillTo f n n = (List.range n).map f := by simp [fillTo]

theorem fillTo_length (f : Nat → Int) (n j : Nat) (h : j ≤ n) : (fillTo f n j).length = n := by simp [fillTo]; omega

theorem fillTo_set (f : Nat → Int) (n j : Nat) (h : j < n) : (fillTo f n j).set j (f j) = fillTo f n (j + 1) := by
  unfold fillTo
  rw [List.set_append_right _ _ (by simp)]
  have : n - j = (n - (j + 1)) + 1 := by omega
  rw [this, List.replicate_succ]
  simp [List.range_succ]

/-- 'append(out, y)' onto integers of the call's own. -/
theorem wpList_append_int {P : Program} {wr : World} {ops : Array Oper} {rest : List Oper} {o : Oper} {a : Act} {Q : Exit → Act → World → Prop} (hgd : o.guard = none) (s x : Operand) (t : TypeId)
    (ho : o.op = .call { callee := .builtin .append, args := #[s, x], argTypes := #[t, t] }) (base : Nat) (e : TypeId) (ht : P.underlying t = some (.slice e))
    (hi : (P.info? e).map (fun i => (i.zero, i.size, i.bytes)) = some (some (.int .i64 0), 1, 8)) (v : Value) (xs : List Int) (hs : a.eval s = v) (hI : Ints wr base e v xs) (y : Int)
    (hx : a.eval x = .slice (some ⟨wr.heap.size, 0, none⟩) 1 1) (hn : xs.length < 1000000000) (hbase : base ≤ wr.heap.size)
    (h : ∀ v' w', Ints w' base e v' (xs ++ [y]) → wr.grownBy w' v.ownBlock → wpList P ops Q rest (a.put o.dst v') w') :
    wpList P ops Q (o :: rest) a (wr.alloc (.cells #[.int .i64 y] e)) := by
  obtain ⟨i, hi, hz0, hz1, hz2⟩ := info_parts hi
  refine wpList_append_own _ hgd s x t ho base e i (.int .i64 0) 1 8 ht hi hz0 hz1 hz2 rfl (by decide) v xs.length _ hs (World.ownsRow.alloc hI _) ⟨wr.heap.size, 0, none⟩ 1 1 [.int .i64 y] hx rfl ?_ ?_ (by unfold maxLen; omega) (by omega) (by simp; omega) ?_
  · exact cell_one_new _ _ _
  · intro u hu
    simp at hu
    subst hu
    rfl
  · intro v' w' h1 h2 _
    refine h v' w' ?_ (grownBy_trans (World.grownBy_alloc _ _ _) h2)
    have e1 : (xs ++ [y]).length = xs.length + 1 := by simp
    unfold Ints
    rw [e1, List.map_append]
    exact h1

theorem Ints.below {w0 w w' : World} {B : Nat} {e : TypeId} {v : Value} {xs : List Int} (h : Ints w B e v xs) (hb : Below B w0 w) (hB : B ≤ w.heap.size) (hg : w.grownBy w' v.ownBlock) : Below B w0 w' :=
  hb.grown hg hB fun k hk => (h.own k hk).1

/-- A literal's own row: '[]int{..}'. -/
theorem Ints.boxed (W : World) (B : Nat) (e : TypeId) (xs : List Int) (hB : B ≤ W.heap.size) (hn : xs.length ≤ 1000000000) :
    Ints (W.alloc (.cells (xs.map (Value.int .i64)).toArray e)) B e (.slice (some ⟨W.heap.size, 0, none⟩) xs.length xs.length) xs := by
  refine ⟨by simp, .inr ⟨W.heap.size, xs.length, _, rfl, hB, heap_alloc_new W _, Nat.le_refl _, by unfold maxLen; omega, by simp, ?_⟩⟩
  rw [List.take_of_length_le (by simp)]

end Go.Proofs.Ytnldnjgnpdicnaa

namespace Go.Proofs.Ytnldnjgnpdicnaa
open Go.RowKit

theorem Ints.cellKept {w w' : World} {B : Nat} {e : TypeId} {v : Value} {xs : List Int} (h : Ints w B e v xs) (hg : w.grownBy w' v.ownBlock) {b o : Nat} {x : Value} (hb : b < B) (hc : w.cell? ⟨b, o, none⟩ = some x) : w'.cell? ⟨b, o, none⟩ = some x :=
  hg.cell hc fun hk => by
    have := (h.own b hk.symm).1
    omega

end Go.Proofs.Ytnldnjgnpdicnaa

namespace Go.Proofs.Ytnldnjgnpdicnaa
open Go.RowKit

/-- From w to w' only the blocks B, .. T - 1 of w have changed, and new ones may have come. -/
structure Only (B T : Nat) (w w' : World) : Prop where
  os : w'.os = w.os
  tape : w'.tape = w.tape
  output : w'.output = w.output
  size : w.heap.size ≤ w'.heap.size
  block : ∀ k, k < w.heap.size → ¬ (B ≤ k ∧ k < T) → w'.heap[k]? = w.heap[k]?

/-- The blocks B, .. T - 1 are the same in both worlds. -/
def Same (B T : Nat) (w w' : World) : Prop := ∀ k, B ≤ k → k < T → w'.heap[k]? = w.heap[k]?

theorem Same.refl (B T : Nat) (w : World) : Same B T w w := fun _ _ _ => rfl

theorem Same.trans {B T : Nat} {w w1 w2 : World} (h : Same B T w w1) (g : Same B T w1 w2) : Same B T w w2 := fun k a b => (g k a b).trans (h k a b)

theorem belowSame {B T : Nat} {w w' : World} (h : Below w.heap.size w w') (hT : T ≤ w.heap.size) : Same B T w w' := fun k _ b => h.block k (by omega)

theorem Only.same_in {B T B' T' : Nat} {w w' : World} (h : Only B T w w') (hT : T' ≤ w.heap.size) (hd : T' ≤ B ∨ T ≤ B') : Same B' T' w w' := fun k a b => h.block k (by omega) (by omega)

theorem Only.below {B T C : Nat} {w w' : World} (h : Only B T w w') (hC : C ≤ B) (hw : C ≤ w.heap.size) : Below C w w' :=
  ⟨h.os, h.tape, h.output, h.size, fun k hk => h.block k (by omega) (by omega)⟩

theorem Only.of_grown {w w' : World} {v : Value} {B T : Nat} (h : w.grownBy w' v.ownBlock) (hv : ∀ k, v.ownBlock = some k → B ≤ k ∧ k < T) : Only B T w w' :=
  ⟨h.os, h.tape, h.output, h.size, fun k hk hn => h.block k hk fun e => hn (hv k e.symm)⟩

theorem Only.trans {B T : Nat} {w w1 w2 : World} (h : Only B T w w1) (g : Only B T w1 w2) : Only B T w w2 :=
  ⟨g.os.trans h.os, g.tape.trans h.tape, g.output.trans h.output, Nat.le_trans h.size g.size, fun k hk hn => (g.block k (Nat.lt_of_lt_of_le hk h.size) hn).trans (h.block k hk hn)⟩

theorem Only.refl (B T : Nat) (w : World) : Only B T w w := ⟨rfl, rfl, rfl, Nat.le_refl _, fun _ _ _ => rfl⟩

theorem Only.wider {B T B' T' : Nat} {w w' : World} (h : Only B T w w') (hB : B' ≤ B) (hT : T ≤ T') : Only B' T' w w' :=
  ⟨h.os, h.tape, h.output, h.size, fun k hk hn => h.block k hk (by omega)⟩

theorem Only.drewN {B T : Nat} {w w' : World} (h : Only B T w w') (n : Nat) : Only B T w (w'.drewN n) := ⟨h.os, h.tape, h.output, h.size, h.block⟩

theorem Only.cell {B T : Nat} {w w' : World} (h : Only B T w w') {b o : Nat} {x : Value} (hd : b < B ∨ T ≤ b) (hc : w.cell? ⟨b, o, none⟩ = some x) : w'.cell? ⟨b, o, none⟩ = some x :=
  (World.cell?_of_block (h.block b (World.block_lt_of_cell? w _ hc) (by omega))).trans hc

theorem cellB {w w' : World} (h : Below w.heap.size w w') {b o : Nat} {x : Value} (hc : w.cell? ⟨b, o, none⟩ = some x) : w'.cell? ⟨b, o, none⟩ = some x :=
  (h.cell (p := ⟨b, o, none⟩) (World.block_lt_of_cell? w _ hc)).trans hc

/-- The integers xs in a slice whose block is one of B, .. T - 1. -/
def IntsIn (e : TypeId) (w : World) (B T : Nat) (v : Value) (xs : List Int) : Prop := Ints w B e v xs ∧ ∀ k, v.ownBlock = some k → k < T

theorem IntsIn.keep {e : TypeId} {w w' : World} {B T : Nat} {v : Value} {xs : List Int} (h : IntsIn e w B T v xs) (hs : Same B T w w') : IntsIn e w' B T v xs := by
  refine ⟨⟨h.1.1, ?_⟩, h.2⟩
  rcases h.1.2 with h1 | ⟨g, cap, cur, hv, hB, hg, hn, hm, hz, ht⟩
  · exact .inl h1
  · refine .inr ⟨g, cap, cur, hv, hB, ?_, hn, hm, hz, ht⟩
    rw [hs g hB (h.2 g (by rw [hv]; rfl)), hg]

theorem IntsIn.own {e : TypeId} {w : World} {B T : Nat} {v : Value} {xs : List Int} (h : IntsIn e w B T v xs) : ∀ k, v.ownBlock = some k → B ≤ k ∧ k < T :=
  fun k hk => ⟨(h.1.own k hk).1, h.2 k hk⟩

theorem Ints.inn {e : TypeId} {w : World} {B : Nat} {v : Value} {xs : List Int} (h : Ints w B e v xs) : IntsIn e w B w.heap.size v xs := ⟨h, fun k hk => (h.own k hk).2⟩

theorem IntsIn.nil (e : TypeId) (w : World) (B T : Nat) : IntsIn e w B T (.slice none 0 0) [] := ⟨World.ownsRow_nil _ _ _ _, fun k hk => by simp [Value.ownBlock] at hk⟩

/-- A call returns x, in memory of its own, and the bool b. -/
def Gives {α : Type} (K : World → Nat → Nat → Value → α → Prop) (w : World) (x : α) (b : Bool) (e : Ending) (w' : World) : Prop :=
  ∃ v, e = .returned (.tuple #[v, .bool b]) ∧ K w' w.heap.size w'.heap.size v x ∧ Below w.heap.size w w'

end Go.Proofs.Ytnldnjgnpdicnaa

namespace Go.Proofs.Ytnldnjgnpdicnaa
open Go.RowKit

theorem IntsIn.beside {e : TypeId} {w w' : World} {B T : Nat} {v u : Value} {xs : List Int} (h : IntsIn e w B T v xs) (hg : w.grownBy w' u.ownBlock) (hu : ∀ k, u.ownBlock = some k → T ≤ k) (hT : T ≤ w.heap.size) : IntsIn e w' B T v xs :=
  h.keep fun k _ hk => hg.block k (by omega) fun e => by have := hu k e.symm; omega

/-- The integers 1, .., m. -/
def upTo (m : Nat) : List Int := (List.range m).map fun (i : Nat) => (i : Int) + 1

theorem upTo_length (m : Nat) : (upTo m).length = m := by simp [upTo]

theorem upTo_succ (m : Nat) : upTo m ++ [(m : Int) + 1] = upTo (m + 1) := by simp [upTo, List.range_succ]

theorem upTo_get (m i : Nat) (h : i < m) : (upTo m).getD i 0 = (i : Int) + 1 := by
  simp [upTo, List.getD, List.getElem?_map, List.getElem?_range h]

/-- Those of 1, .., m with no common divisor with p. -/
def onesTo (p m : Nat) : List Int := (upTo m).filter fun x => decide (Nat.gcd p x.toNat = 1)

theorem onesTo_zero (p : Nat) : onesTo p 0 = [] := rfl

theorem onesTo_length (p m : Nat) : (onesTo p m).length ≤ m := by
  have := List.length_filter_le (fun x : Int => decide (Nat.gcd p x.toNat = 1)) (upTo m)
  rw [upTo_length] at this
  exact this

theorem onesTo_yes (p m : Nat) (h : Nat.gcd p (m + 1) = 1) : onesTo p m ++ [(m : Int) + 1] = onesTo p (m + 1) := by
  have e : ((m : Int) + 1).toNat = m + 1 := by omega
  rw [onesTo, onesTo, ← upTo_succ, List.filter_append]
  simp [e, h]

theorem onesTo_no (p m : Nat) (h : ¬ Nat.gcd p (m + 1) = 1) : onesTo p m = onesTo p (m + 1) := by
  have e : ((m : Int) + 1).toNat = m + 1 := by omega
  rw [onesTo, onesTo, ← upTo_succ, List.filter_append]
  simp [e, h]

end Go.Proofs.Ytnldnjgnpdicnaa

namespace Go.Proofs.Ytnldnjgnpdicnaa
open Go.RowKit

theorem quiet2 {P : Program} {f : FuncId} {args : Array Value} {w : World} {q n : Nat} {v : Value}
    (h : Calls P f args (w.drewN (q + n)) fun e w' => e = .returned v ∧ ∃ m, w' = (w.drewN (q + n)).drewN m) : Calls P f args (w.drewN (q + n)) fun e w'' => e = .returned v ∧ ∃ m, w'' = w.drewN (q + m) :=
  h.mono fun _ _ ⟨he, m, hm⟩ => ⟨he, n + m, by rw [hm, World.drewN_drewN, Nat.add_assoc]⟩

theorem IntsIn.ints {e : TypeId} {w : World} {B T : Nat} {v : Value} {xs : List Int} (h : IntsIn e w B T v xs) : Ints w B e v xs := h.1

/-- The outer slice v holds the slices vs, which hold the integers xss, each in a block of its own; all blocks are among B, .. T - 1. -/
structure RowsAt (eo ei : TypeId) (w : World) (B T : Nat) (v : Value) (vs : List Value) (xss : List (List Int)) : Prop where
  len : vs.length = xss.length
  outer : w.ownsRow B eo 1 v vs.length vs
  top : ∀ k, v.ownBlock = some k → k < T
  rows : ∀ i, i < xss.length → IntsIn ei w B T (vs.getD i (.slice none 0 0)) (xss.getD i [])
  apart : ∀ i j, i < xss.length → j < xss.length → i ≠ j → ∀ k, (vs.getD i (.slice none 0 0)).ownBlock = some k → (vs.getD j (.slice none 0 0)).ownBlock ≠ some k

def RowsIn (eo ei : TypeId) (w : World) (B T : Nat) (v : Value) (xss : List (List Int)) : Prop := ∃ vs, RowsAt eo ei w B T v vs xss

theorem ownsRow_same {w w' : World} {B T : Nat} {e : TypeId} {v : Value} {n : Nat} {vs : List Value} (h : w.ownsRow B e 1 v n vs) (ht : ∀ k, v.ownBlock = some k → k < T) (hs : Same B T w w') : w'.ownsRow B e 1 v n vs := by
  refine ⟨h.1, ?_⟩
  rcases h.2 with h1 | ⟨g, cap, cur, hv, hB, hg, hn, hm, hz, htk⟩
  · exact .inl h1
  · exact .inr ⟨g, cap, cur, hv, hB, by rw [hs g hB (ht g (by rw [hv]; rfl)), hg], hn, hm, hz, htk⟩

theorem RowsAt.keep {eo ei : TypeId} {w w' : World} {B T : Nat} {v : Value} {vs : List Value} {xss : List (List Int)} (h : RowsAt eo ei w B T v vs xss) (hs : Same B T w w') : RowsAt eo ei w' B T v vs xss :=
  ⟨h.len, ownsRow_same h.outer h.top hs, h.top, fun i hi => (h.rows i hi).keep hs, h.apart⟩

theorem RowsIn.keep {eo ei : TypeId} {w w' : World} {B T : Nat} {v : Value} {xss : List (List Int)} (h : RowsIn eo ei w B T v xss) (hs : Same B T w w') : RowsIn eo ei w' B T v xss := by
  obtain ⟨vs, h⟩ := h
  exact ⟨vs, h.keep hs⟩

theorem RowsIn.nil (eo ei : TypeId) (w : World) (B T : Nat) : RowsIn eo ei w B T (.slice none 0 0) [] :=
  ⟨[], rfl, World.ownsRow_nil _ _ _ _, fun k hk => by simp [Value.ownBlock] at hk, fun i hi => by simp at hi, fun i j hi => by simp at hi⟩

theorem ownsRow_block {w : World} {B : Nat} {e : TypeId} {v : Value} {n : Nat} {vs : List Value} (h : w.ownsRow B e 1 v n vs) {k : Nat} (hk : v.ownBlock = some k) : ∃ cur, w.heap[k]? = some (.cells cur e (0, 0)) := by
  rcases h.2 with ⟨h1, _⟩ | ⟨g, cap, cur, hv, hB, hg, _⟩
  · rw [h1] at hk; simp [Value.ownBlock] at hk
  · rw [hv] at hk
    simp [Value.ownBlock] at hk
    subst hk
    exact ⟨cur, hg⟩

theorem ownsRow_apart {w : World} {B B' : Nat} {e e' : TypeId} {v v' : Value} {n n' : Nat} {vs vs' : List Value} (h : w.ownsRow B e 1 v n vs) (h' : w.ownsRow B' e' 1 v' n' vs') (hne : e ≠ e') {k : Nat} (hk : v.ownBlock = some k) : v'.ownBlock ≠ some k := by
  intro hk'
  obtain ⟨c, hc⟩ := ownsRow_block h hk
  obtain ⟨c', hc'⟩ := ownsRow_block h' hk'
  rw [hc] at hc'
  simp at hc'
  exact hne hc'.2

/-- What stands in the outer slice. -/
theorem RowsAt.view {eo ei : TypeId} {w : World} {B T : Nat} {v : Value} {vs : List Value} {xss : List (List Int)} (h : RowsAt eo ei w B T v vs xss) :
    ∃ (a0 : Option Addr) (cap g : Nat), v = .slice a0 xss.length cap ∧ (0 < xss.length → a0 = some ⟨g, 0, none⟩) ∧ xss.length ≤ maxLen ∧
      (∀ i, i < xss.length → w.cell? ⟨g, i, none⟩ = some (vs.getD i (.slice none 0 0))) ∧ (∀ i, 0 < xss.length → w.frozen? ⟨g, i, none⟩ = false) := by
  have hlen := h.len
  have h0 := h.outer
  rcases h0.2 with ⟨hv, hn⟩ | ⟨g, cap, cur, hv, hB, hg, hn, hm, hs, ht⟩
  · exact ⟨none, 0, 0, by rw [← hlen, hn]; exact hv, fun h => by omega, by omega, fun i hi => by omega, fun i hi => by omega⟩
  · subst hv
    refine ⟨some ⟨g, 0, none⟩, cap, g, by rw [← hlen], fun _ => rfl, by omega, fun i hi => ?_, fun i _ => World.ownsRow.frozenAt h0 i⟩
    rw [World.ownsRow.cellAt h0 i (by omega), List.getD_eq_getElem?_getD, List.getElem?_eq_getElem (by omega)]
    rfl

/-- One of the inner slices is written anew. -/
theorem RowsAt.wrote {eo ei : TypeId} {w w' : World} {B T : Nat} {v : Value} {vs : List Value} {xss : List (List Int)} (h : RowsAt eo ei w B T v vs xss) (hne : eo ≠ ei) {k : Nat} (hk : k < xss.length) {ys : List Int}
    (hI : Ints w' B ei (vs.getD k (.slice none 0 0)) ys) (hg : w.grownBy w' (vs.getD k (.slice none 0 0)).ownBlock) : RowsAt eo ei w' B T v vs (xss.set k ys) := by
  refine ⟨by rw [List.length_set]; exact h.len, ?_, h.top, fun i hi => ?_, fun i j hi hj => h.apart i j (by simpa using hi) (by simpa using hj)⟩
  · refine World.ownsRow.kept h.outer hg ?_
    cases hv : v.ownBlock with
    | none => exact .inl rfl
    | some b => exact .inr (fun e => ownsRow_apart h.outer (h.rows k hk).1 hne hv e.symm)
  · rw [List.length_set] at hi
    by_cases hik : i = k
    · subst hik
      rw [List.getD_eq_getElem?_getD (l := xss.set i ys), List.getElem?_set_self hi]
      exact ⟨hI, (h.rows i hi).2⟩
    · rw [List.getD_eq_getElem?_getD (l := xss.set k ys), List.getElem?_set_ne (fun e => hik e.symm), ← List.getD_eq_getElem?_getD]
      refine ⟨World.ownsRow.kept (h.rows i hi).1 hg ?_, (h.rows i hi).2⟩
      cases hv : (vs.getD i (.slice none 0 0)).ownBlock with
      | none => exact .inl rfl
      | some b => exact .inr (fun e => h.apart i k hi hk hik b hv e.symm)

/-- All cells of all rows. -/
def cellsOf (xss : List (List Int)) : Nat := (xss.map List.length).sum

/-- Where the marks of row j begin. -/
def offs (m : Int) (xss : List (List Int)) (j : Nat) : Int := m + (cellsOf (xss.take j) : Int)

theorem offs_zero (m : Int) (xss : List (List Int)) : offs m xss 0 = m := by simp [offs, cellsOf]

theorem offs_succ (m : Int) (xss : List (List Int)) (j : Nat) (h : j < xss.length) : offs m xss j + ((xss.getD j []).length : Int) = offs m xss (j + 1) := by
  unfold offs cellsOf
  rw [List.take_succ_eq_append_getElem h, List.map_append, List.sum_append, List.getD_eq_getElem?_getD, List.getElem?_eq_getElem h]
  simp
  omega

theorem offs_all (m : Int) (xss : List (List Int)) : offs m xss xss.length = m + (cellsOf xss : Int) := by simp [offs]

theorem offs_le (m : Int) (xss : List (List Int)) (j : Nat) : m ≤ offs m xss j ∧ offs m xss j ≤ m + (cellsOf xss : Int) := by
  have : cellsOf (xss.take j) ≤ cellsOf xss := by
    conv => rhs; rw [← List.take_append_drop j xss]
    unfold cellsOf
    rw [List.map_append, List.sum_append]
    omega
  unfold offs
  omega

theorem row_le (xss : List (List Int)) (j : Nat) (h : j < xss.length) : (xss.getD j []).length ≤ cellsOf xss := by
  have h1 := offs_succ 0 xss j h
  have h2 := offs_le 0 xss (j + 1)
  have h3 := offs_le 0 xss j
  omega

/-- The first k rows are marked. -/
def markedRows (m : Int) (xss : List (List Int)) : Nat → List (List Int)
  | 0 => xss
  | k + 1 => (markedRows m xss k).set k (marks (offs m xss k) (xss.getD k []).length)

theorem markedRows_length (m : Int) (xss : List (List Int)) (k : Nat) : (markedRows m xss k).length = xss.length := by
  induction k with
  | zero => rfl
  | succ k ih => rw [markedRows, List.length_set, ih]

theorem markedRows_later (m : Int) (xss : List (List Int)) (k j : Nat) (h : k ≤ j) : (markedRows m xss k).getD j [] = xss.getD j [] := by
  induction k with
  | zero => rfl
  | succ k ih => rw [markedRows, List.getD_eq_getElem?_getD, List.getElem?_set_ne (by omega), ← List.getD_eq_getElem?_getD, ih (by omega)]

theorem markedRows_get (m : Int) (xss : List (List Int)) (k j : Nat) (h : j < k) (hj : j < xss.length) : (markedRows m xss k).getD j [] = marks (offs m xss j) (xss.getD j []).length := by
  induction k with
  | zero => omega
  | succ k ih =>
    by_cases hjk : j = k
    · subst hjk
      rw [markedRows, List.getD_eq_getElem?_getD, List.getElem?_set_self (by rw [markedRows_length]; exact hj)]
      rfl
    · rw [markedRows, List.getD_eq_getElem?_getD, List.getElem?_set_ne (fun e => hjk e.symm), ← List.getD_eq_getElem?_getD, ih (by omega)]

end Go.Proofs.Ytnldnjgnpdicnaa

namespace Go.Proofs.Ytnldnjgnpdicnaa
open Go.RowKit

/-- The first j of n places are filled by f, the others hold z. -/
def fillG {α : Type} (f : Nat → α) (z : α) (n j : Nat) : List α := (List.range j).map f ++ List.replicate (n - j) z

theorem fillG_zero {α : Type} (f : Nat → α) (z : α) (n : Nat) : fillG f z n 0 = List.replicate n z := by simp [fillG]

theorem fillG_all {α : Type} (f : Nat → α) (z : α) (n : Nat) : fillG f z n n = (List.range n).map f := by simp [fillG]

theorem fillG_length {α : Type} (f : Nat → α) (z : α) (n j : Nat) (h : j ≤ n) : (fillG f z n j).length = n := by simp [fillG]; omega

theorem fillG_set {α : Type} (f : Nat → α) (z : α) (n j : Nat) (h : j < n) : (fillG f z n j).set j (f j) = fillG f z n (j + 1) := by
  unfold fillG
  rw [List.set_append_right _ _ (by simp)]
  have : n - j = (n - (j + 1)) + 1 := by omega
  rw [this, List.replicate_succ]
  simp [List.range_succ]

/-- n new nil slices. -/
def nilRows (n : Nat) : Array Value := madeCells #[Value.slice none 0 0] n

theorem nilRows_list (n : Nat) : (nilRows n).toList = List.replicate n (Value.slice none 0 0) := by
  apply List.ext_getElem?
  intro i
  by_cases h : i < n
  · simp [nilRows, madeCells, h, Nat.mod_one]
  · simp [nilRows, madeCells, h]

theorem make_rows {P : Program} {t e : TypeId} (ht : P.underlying t = some (.slice e)) (hi : (P.info? e).map (fun i => (i.zero, i.size, i.bytes)) = some (some (.slice none 0 0), 1, 24)) (n : Nat) (hn : n ≤ 1000000000) :
    ∀ W : World, (Instr.makeSlice t (.int .i64 (n : Int)) (.int .i64 (n : Int))).run P W = .ok (.slice (some ⟨W.heap.size, 0, none⟩) n n) (W.alloc (.cells (nilRows n) e)) := by
  intro W
  obtain ⟨i, hi, hz0, hz1, hz2⟩ := info_parts hi
  have := run_make (P := P) W t e i (.slice none 0 0) ht hi hz0 .i64 .i64 (n : Int) (n : Int) (by omega) (Int.le_refl _) (by rw [hz2]; omega) (by omega)
  rw [this, hz1]
  simp [nilRows, Value.cells]

theorem getD_replicate {α : Type} (n i : Nat) (z : α) : (List.replicate n z).getD i z = z := by
  rw [List.getD_eq_getElem?_getD, List.getElem?_replicate]
  split <;> rfl

theorem RowsAt.made (W : World) (B : Nat) (eo ei : TypeId) (n : Nat) (hB : B ≤ W.heap.size) (hn : n ≤ 1000000000) :
    RowsAt eo ei (W.alloc (.cells (nilRows n) eo)) B (W.heap.size + 1) (.slice (some ⟨W.heap.size, 0, none⟩) n n) (List.replicate n (.slice none 0 0)) (List.replicate n []) := by
  refine ⟨by simp, ⟨by simp, .inr ⟨W.heap.size, n, nilRows n, by simp, hB, heap_alloc_new W _, by simp, by unfold maxLen; omega, by simp [nilRows, size_madeCells], ?_⟩⟩, ?_, ?_, ?_⟩
  · rw [nilRows_list]; simp
  · intro k hk; simp [Value.ownBlock] at hk; omega
  · intro i _; rw [getD_replicate, getD_replicate]; exact IntsIn.nil _ _ _ _
  · intro i j _ _ _ k hk; rw [getD_replicate] at hk; simp [Value.ownBlock] at hk

theorem IntsIn.widen {e : TypeId} {w : World} {B T B' T' : Nat} {v : Value} {xs : List Int} (h : IntsIn e w B T v xs) (hB : B' ≤ B) (hT : T ≤ T') : IntsIn e w B' T' v xs :=
  ⟨h.1.mono hB, fun k hk => Nat.lt_of_lt_of_le (h.2 k hk) hT⟩

theorem getD_set_self {α : Type} {l : List α} {k : Nat} {x z : α} (h : k < l.length) : (l.set k x).getD k z = x := by
  rw [List.getD_eq_getElem?_getD, List.getElem?_set_self h]; rfl

theorem getD_set_ne {α : Type} {l : List α} {k i : Nat} {x z : α} (h : i ≠ k) : (l.set k x).getD i z = l.getD i z := by
  rw [List.getD_eq_getElem?_getD, List.getElem?_set_ne (fun e => h e.symm), ← List.getD_eq_getElem?_getD]

/-- A new row is laid into one of the places. -/
theorem RowsAt.put {eo ei : TypeId} {w : World} {B T T' g n cap : Nat} {vs : List Value} {xss : List (List Int)} (h : RowsAt eo ei w B T (.slice (some ⟨g, 0, none⟩) n cap) vs xss) (hne : eo ≠ ei) {k : Nat} (hk : k < xss.length) {u : Value} {ys : List Int}
    (hu : IntsIn ei w T T' u ys) (hBT : B ≤ T) (hT : T ≤ T') : RowsAt eo ei (w.setCell ⟨g, k, none⟩ u) B T' (.slice (some ⟨g, 0, none⟩) n cap) (vs.set k u) (xss.set k ys) := by
  have hlen := h.len
  have hn : n = vs.length := by
    rcases h.outer.2 with ⟨hv, _⟩ | ⟨_, _, _, hv, _⟩
    · cases hv
    · cases hv; rfl
  subst hn
  have hg : g < T := h.top g rfl
  obtain ⟨s1, s2⟩ := World.ownsRow.stored h.outer k u
  refine ⟨by simpa using hlen, by rw [List.length_set]; exact s1, fun b hb => Nat.lt_of_lt_of_le (h.top b hb) hT, fun i hi => ?_, fun i j hi hj hij b => ?_⟩
  · rw [List.length_set] at hi
    by_cases hik : i = k
    · subst hik
      rw [getD_set_self (by omega), getD_set_self hi]
      refine IntsIn.widen ⟨World.ownsRow.kept hu.1 s2 ?_, hu.2⟩ hBT (Nat.le_refl _)
      cases hv : u.ownBlock with
      | none => exact .inl rfl
      | some b => exact .inr (fun e => by have := (hu.own b hv).1; simp at e; omega)
    · rw [getD_set_ne hik, getD_set_ne hik]
      have hr := h.rows i hi
      refine IntsIn.widen ⟨World.ownsRow.kept hr.1 s2 ?_, hr.2⟩ (Nat.le_refl _) hT
      cases hv : (vs.getD i (.slice none 0 0)).ownBlock with
      | none => exact .inl rfl
      | some b => exact .inr (fun e => ownsRow_apart h.outer hr.1 hne rfl (by rw [hv, e]))
  · rw [List.length_set] at hi hj
    by_cases hik : i = k
    · subst hik
      rw [getD_set_self (by omega), getD_set_ne (fun e => hij e.symm)]
      intro hb hb'
      have h1 := (hu.own b hb).1
      have h2 := (h.rows j hj).2 b hb'
      omega
    · rw [getD_set_ne hik]
      by_cases hjk : j = k
      · subst hjk
        rw [getD_set_self (by omega)]
        intro hb hb'
        have h1 := (hu.own b hb').1
        have h2 := (h.rows i hi).2 b hb
        omega
      · rw [getD_set_ne hjk]
        exact h.apart i j hi hj hij b

/-- 'append(out, u)', u one cell, onto a row of the call's own. -/
theorem wpList_append_val {P : Program} {wr : World} {ops : Array Oper} {rest : List Oper} {o : Oper} {a : Act} {Q : Exit → Act → World → Prop} (hgd : o.guard = none) (s x : Operand) (t : TypeId)
    (ho : o.op = .call { callee := .builtin .append, args := #[s, x], argTypes := #[t, t] }) (base : Nat) (e : TypeId) (z : Value) (bytes : Nat) (ht : P.underlying t = some (.slice e))
    (hi : (P.info? e).map (fun i => (i.zero, i.size, i.bytes)) = some (some z, 1, bytes)) (hz : z.cells.size = 1) (hby : bytes ≤ 64) (v : Value) (vs : List Value) (hs : a.eval s = v) (hI : wr.ownsRow base e 1 v vs.length vs) (u : Value) (hu : u.oneCell' = true)
    (hx : a.eval x = .slice (some ⟨wr.heap.size, 0, none⟩) 1 1) (hn : vs.length < 1000000000) (hbase : base ≤ wr.heap.size)
    (h : ∀ v' w', w'.ownsRow base e 1 v' (vs ++ [u]).length (vs ++ [u]) → wr.grownBy w' v.ownBlock → wpList P ops Q rest (a.put o.dst v') w') :
    wpList P ops Q (o :: rest) a (wr.alloc (.cells #[u] e)) := by
  obtain ⟨i, hi, hz0, hz1, hz2⟩ := info_parts hi
  have hb : (vs.length + 1) * bytes ≤ (1000000000 + 1) * 64 := Nat.mul_le_mul (by omega) hby
  refine wpList_append_own _ hgd s x t ho base e i z 1 bytes ht hi hz0 hz1 hz2 hz (by decide) v vs.length _ hs (World.ownsRow.alloc hI _) ⟨wr.heap.size, 0, none⟩ 1 1 [u] hx rfl (cell_one_new _ _ _) ?_ (by unfold maxLen; omega) (by omega) (by simp; omega) ?_
  · intro y hy
    simp at hy
    subst hy
    exact hu
  · intro v' w' h1 h2 _
    refine h v' w' ?_ (grownBy_trans (World.grownBy_alloc _ _ _) h2)
    rw [List.length_append]
    exact h1

theorem getD_append_left {α : Type} {l m : List α} {i : Nat} {z : α} (h : i < l.length) : (l ++ m).getD i z = l.getD i z := by
  rw [List.getD_eq_getElem?_getD, List.getElem?_append_left h, ← List.getD_eq_getElem?_getD]

theorem getD_append_last {α : Type} {l : List α} {x z : α} : (l ++ [x]).getD l.length z = x := by
  rw [List.getD_eq_getElem?_getD, List.getElem?_append_right (Nat.le_refl _)]; simp

/-- A new row is appended. -/
theorem RowsAt.more {eo ei : TypeId} {w w' : World} {B T T' : Nat} {v v' : Value} {vs : List Value} {xss : List (List Int)} (h : RowsAt eo ei w B T v vs xss) (hne : eo ≠ ei) {u : Value} {ys : List Int} (hu : IntsIn ei w T T' u ys)
    (hBT : B ≤ T) (hTT : T ≤ T') (hT' : T' ≤ w'.heap.size) (ho : w'.ownsRow B eo 1 v' (vs ++ [u]).length (vs ++ [u])) (hg : w.grownBy w' v.ownBlock) :
    RowsAt eo ei w' B w'.heap.size v' (vs ++ [u]) (xss ++ [ys]) := by
  have hlen := h.len
  have kept : ∀ (x : Value) (xs : List Int) (B1 T1 : Nat), IntsIn ei w B1 T1 x xs → T1 ≤ w'.heap.size → B ≤ B1 → IntsIn ei w' B w'.heap.size x xs := fun x xs B1 T1 hx hT1 hB1 => by
    refine IntsIn.widen ⟨World.ownsRow.kept hx.1 hg ?_, hx.2⟩ hB1 hT1
    cases hv : x.ownBlock with
    | none => exact .inl rfl
    | some b => exact .inr (fun e => ownsRow_apart h.outer hx.1 hne e.symm hv)
  refine ⟨by simp [hlen], ho, fun b hb => (ho.lt b hb).2, fun i hi => ?_, fun i j hi hj hij b => ?_⟩
  · simp at hi
    by_cases hil : i < xss.length
    · rw [getD_append_left (by omega), getD_append_left hil]
      exact kept _ _ _ _ (h.rows i hil) (by omega) (Nat.le_refl _)
    · obtain rfl : i = xss.length := by omega
      have e1 : (vs ++ [u]).getD xss.length (.slice none 0 0) = u := by rw [← hlen]; exact getD_append_last
      rw [e1, getD_append_last]
      exact kept _ _ _ _ hu hT' hBT
  · simp at hi hj
    have e1 : (vs ++ [u]).getD xss.length (.slice none 0 0) = u := by rw [← hlen]; exact getD_append_last
    by_cases hil : i < xss.length
    · rw [getD_append_left (by omega)]
      by_cases hjl : j < xss.length
      · rw [getD_append_left (by omega)]
        exact h.apart i j hil hjl hij b
      · obtain rfl : j = xss.length := by omega
        rw [e1]
        intro hb hb'
        have h1 := (hu.own b hb').1
        have h2 := (h.rows i hil).2 b hb
        omega
    · obtain rfl : i = xss.length := by omega
      rw [e1, getD_append_left (by omega)]
      intro hb hb'
      have h1 := (hu.own b hb).1
      have h2 := (h.rows j (by omega)).2 b hb'
      omega

theorem RowsAt.wider {eo ei : TypeId} {w : World} {B T T' : Nat} {v : Value} {vs : List Value} {xss : List (List Int)} (h : RowsAt eo ei w B T v vs xss) (hT : T ≤ T') : RowsAt eo ei w B T' v vs xss :=
  ⟨h.len, h.outer, fun k hk => Nat.lt_of_lt_of_le (h.top k hk) hT, fun i hi => (h.rows i hi).widen (Nat.le_refl _) hT, h.apart⟩

theorem RowsAt.lower {eo ei : TypeId} {w : World} {B B' T : Nat} {v : Value} {vs : List Value} {xss : List (List Int)} (h : RowsAt eo ei w B T v vs xss) (hB : B' ≤ B) : RowsAt eo ei w B' T v vs xss :=
  ⟨h.len, World.ownsRow.mono h.outer hB, h.top, fun i hi => (h.rows i hi).widen hB (Nat.le_refl _), h.apart⟩

end Go.Proofs.Ytnldnjgnpdicnaa

namespace Go.Proofs.Ytnldnjgnpdicnaa
open Go.RowKit

/-- The cells of pairs, one after the other. -/
def flatP : List (Int × Int) → List Int
  | [] => []
  | p :: r => p.1 :: p.2 :: flatP r

theorem flatP_length (xs : List (Int × Int)) : (flatP xs).length = xs.length * 2 := by
  induction xs with
  | nil => rfl
  | cons p r ih => simp [flatP, ih]; omega

theorem flatP_get0 (xs : List (Int × Int)) (k : Nat) : (flatP xs).getD (k * 2) 0 = (xs.getD k (0, 0)).1 := by
  induction xs generalizing k with
  | nil => simp [flatP]
  | cons p r ih =>
    cases k with
    | zero => simp [flatP]
    | succ k =>
      rw [show (k + 1) * 2 = k * 2 + 1 + 1 by omega]
      simpa [flatP] using ih k

theorem flatP_get1 (xs : List (Int × Int)) (k : Nat) : (flatP xs).getD (k * 2 + 1) 0 = (xs.getD k (0, 0)).2 := by
  induction xs generalizing k with
  | nil => simp [flatP]
  | cons p r ih =>
    cases k with
    | zero => simp [flatP]
    | succ k =>
      rw [show (k + 1) * 2 + 1 = k * 2 + 1 + 1 + 1 by omega]
      simpa [flatP] using ih k

theorem flatP_set0 (xs : List (Int × Int)) (k : Nat) (x : Int) : (flatP xs).set (k * 2) x = flatP (xs.set k (x, (xs.getD k (0, 0)).2)) := by
  induction xs generalizing k with
  | nil => simp [flatP]
  | cons p r ih =>
    cases k with
    | zero => simp [flatP]
    | succ k =>
      rw [show (k + 1) * 2 = k * 2 + 1 + 1 by omega]
      simpa [flatP] using ih k

theorem flatP_set1 (xs : List (Int × Int)) (k : Nat) (x : Int) : (flatP xs).set (k * 2 + 1) x = flatP (xs.set k ((xs.getD k (0, 0)).1, x)) := by
  induction xs generalizing k with
  | nil => simp [flatP]
  | cons p r ih =>
    cases k with
    | zero => simp [flatP]
    | succ k =>
      rw [show (k + 1) * 2 + 1 = k * 2 + 1 + 1 + 1 by omega]
      simpa [flatP] using ih k

theorem flatP_append (xs ys : List (Int × Int)) : flatP (xs ++ ys) = flatP xs ++ flatP ys := by
  induction xs with
  | nil => rfl
  | cons p r ih => simp [flatP, ih]

/-- The slice v holds the pairs xs. -/
def Pairs (w : World) (B : Nat) (e : TypeId) (v : Value) (xs : List (Int × Int)) : Prop := w.ownsRow B e 2 v xs.length ((flatP xs).map (Value.int .i64))

def PairsIn (e : TypeId) (w : World) (B T : Nat) (v : Value) (xs : List (Int × Int)) : Prop := Pairs w B e v xs ∧ ∀ k, v.ownBlock = some k → k < T

theorem Pairs.len {w : World} {B g n cap : Nat} {e : TypeId} {xs : List (Int × Int)} (h : Pairs w B e (.slice (some ⟨g, 0, none⟩) n cap) xs) : n = xs.length := by
  rcases h.2 with ⟨hv, _⟩ | ⟨_, _, _, hv, _⟩
  · cases hv
  · cases hv; rfl

theorem Pairs.cell0 {w : World} {B g n cap : Nat} {e : TypeId} {xs : List (Int × Int)} (h : Pairs w B e (.slice (some ⟨g, 0, none⟩) n cap) xs) (i : Nat) (hi : i < xs.length) : w.cell? ⟨g, i * 2, none⟩ = some (.int .i64 (xs.getD i (0, 0)).1) := by
  obtain rfl := h.len
  rw [World.ownsRow.cellAt h (i * 2) (by omega), List.getElem?_map, List.getElem?_eq_getElem (by rw [flatP_length]; omega)]
  have := flatP_get0 xs i
  rw [List.getD_eq_getElem?_getD, List.getElem?_eq_getElem (by rw [flatP_length]; omega)] at this
  simpa using this

theorem Pairs.cell1 {w : World} {B g n cap : Nat} {e : TypeId} {xs : List (Int × Int)} (h : Pairs w B e (.slice (some ⟨g, 0, none⟩) n cap) xs) (i : Nat) (hi : i < xs.length) : w.cell? ⟨g, i * 2 + 1, none⟩ = some (.int .i64 (xs.getD i (0, 0)).2) := by
  obtain rfl := h.len
  rw [World.ownsRow.cellAt h (i * 2 + 1) (by omega), List.getElem?_map, List.getElem?_eq_getElem (by rw [flatP_length]; omega)]
  have := flatP_get1 xs i
  rw [List.getD_eq_getElem?_getD, List.getElem?_eq_getElem (by rw [flatP_length]; omega)] at this
  simpa using this

theorem Pairs.frozenAt {w : World} {B g n cap : Nat} {e : TypeId} {xs : List (Int × Int)} (h : Pairs w B e (.slice (some ⟨g, 0, none⟩) n cap) xs) (i : Nat) : w.frozen? ⟨g, i, none⟩ = false := by
  obtain rfl := h.len
  exact World.ownsRow.frozenAt h i

theorem Pairs.stored0 {w : World} {B g n cap : Nat} {e : TypeId} {xs : List (Int × Int)} (h : Pairs w B e (.slice (some ⟨g, 0, none⟩) n cap) xs) (j : Nat) (x : Int) :
    Pairs (w.setCell ⟨g, j * 2, none⟩ (.int .i64 x)) B e (.slice (some ⟨g, 0, none⟩) n cap) (xs.set j (x, (xs.getD j (0, 0)).2)) ∧ w.grownBy (w.setCell ⟨g, j * 2, none⟩ (.int .i64 x)) (some g) := by
  obtain rfl := h.len
  have := World.ownsRow.stored h (j * 2) (.int .i64 x)
  unfold Pairs
  rw [List.length_set, ← flatP_set0, List.map_set]
  exact this

theorem Pairs.stored1 {w : World} {B g n cap : Nat} {e : TypeId} {xs : List (Int × Int)} (h : Pairs w B e (.slice (some ⟨g, 0, none⟩) n cap) xs) (j : Nat) (x : Int) :
    Pairs (w.setCell ⟨g, j * 2 + 1, none⟩ (.int .i64 x)) B e (.slice (some ⟨g, 0, none⟩) n cap) (xs.set j ((xs.getD j (0, 0)).1, x)) ∧ w.grownBy (w.setCell ⟨g, j * 2 + 1, none⟩ (.int .i64 x)) (some g) := by
  obtain rfl := h.len
  have := World.ownsRow.stored h (j * 2 + 1) (.int .i64 x)
  unfold Pairs
  rw [List.length_set, ← flatP_set1, List.map_set]
  exact this

theorem Pairs.view {w : World} {B : Nat} {e : TypeId} {v : Value} {xs : List (Int × Int)} (h : Pairs w B e v xs) :
    ∃ (a0 : Option Addr) (cap g : Nat), v = .slice a0 xs.length cap ∧ (0 < xs.length → a0 = some ⟨g, 0, none⟩) ∧ xs.length ≤ maxLen ∧
      (∀ i, i < xs.length → w.cell? ⟨g, i * 2, none⟩ = some (.int .i64 (xs.getD i (0, 0)).1)) ∧ (∀ i, i < xs.length → w.cell? ⟨g, i * 2 + 1, none⟩ = some (.int .i64 (xs.getD i (0, 0)).2)) := by
  have h0 := h
  obtain ⟨hl, h1 | ⟨g, cap, cur, hv, hB, hg, hn, hm, hs, ht⟩⟩ := h0
  · obtain ⟨hv, hn⟩ := h1
    exact ⟨none, 0, 0, by rw [hn]; exact hv, fun h => by omega, by omega, fun i hi => by omega, fun i hi => by omega⟩
  · subst hv
    exact ⟨some ⟨g, 0, none⟩, cap, g, rfl, fun _ => rfl, by omega, fun i hi => h.cell0 i hi, fun i hi => h.cell1 i hi⟩

theorem Pairs.own {w : World} {B : Nat} {e : TypeId} {v : Value} {xs : List (Int × Int)} (h : Pairs w B e v xs) : ∀ k, v.ownBlock = some k → B ≤ k ∧ k < w.heap.size := World.ownsRow.lt h

theorem Pairs.drewN {w : World} {B : Nat} {e : TypeId} {v : Value} {xs : List (Int × Int)} (h : Pairs w B e v xs) (n : Nat) : Pairs (w.drewN n) B e v xs := h

theorem PairsIn.pairs {e : TypeId} {w : World} {B T : Nat} {v : Value} {xs : List (Int × Int)} (h : PairsIn e w B T v xs) : Pairs w B e v xs := h.1

theorem PairsIn.own {e : TypeId} {w : World} {B T : Nat} {v : Value} {xs : List (Int × Int)} (h : PairsIn e w B T v xs) : ∀ k, v.ownBlock = some k → B ≤ k ∧ k < T :=
  fun k hk => ⟨(h.1.own k hk).1, h.2 k hk⟩

theorem PairsIn.keep {e : TypeId} {w w' : World} {B T : Nat} {v : Value} {xs : List (Int × Int)} (h : PairsIn e w B T v xs) (hs : Same B T w w') : PairsIn e w' B T v xs := by
  refine ⟨⟨h.1.1, ?_⟩, h.2⟩
  rcases h.1.2 with h1 | ⟨g, cap, cur, hv, hB, hg, hn, hm, hz, ht⟩
  · exact .inl h1
  · refine .inr ⟨g, cap, cur, hv, hB, ?_, hn, hm, hz, ht⟩
    rw [hs g hB (h.2 g (by rw [hv]; rfl)), hg]

theorem PairsIn.nil (e : TypeId) (w : World) (B T : Nat) : PairsIn e w B T (.slice none 0 0) [] := ⟨World.ownsRow_nil _ _ _ _, fun k hk => by simp [Value.ownBlock] at hk⟩

theorem Pairs.inn {e : TypeId} {w : World} {B : Nat} {v : Value} {xs : List (Int × Int)} (h : Pairs w B e v xs) : PairsIn e w B w.heap.size v xs := ⟨h, fun k hk => (h.own k hk).2⟩

/-- The marks of pairs. -/
def markP (m : Int) (n : Nat) : List (Int × Int) := (List.range n).map fun (i : Nat) => (m + 2 * (i : Int), m + 2 * (i : Int) + 1)

theorem markP_length (m : Int) (n : Nat) : (markP m n).length = n := by simp [markP]

theorem markP_get (m : Int) (n i : Nat) (h : i < n) : (markP m n).getD i (0, 0) = (m + 2 * (i : Int), m + 2 * (i : Int) + 1) := by
  simp [markP, List.getD, List.getElem?_map, List.getElem?_range h]

def markedP (m : Int) (xs : List (Int × Int)) (k : Nat) : List (Int × Int) := markP m k ++ xs.drop k

theorem markedP_zero (m : Int) (xs : List (Int × Int)) : markedP m xs 0 = xs := by simp [markedP, markP]

theorem markedP_all (m : Int) (xs : List (Int × Int)) : markedP m xs xs.length = markP m xs.length := by simp [markedP]

theorem markedP_length (m : Int) (xs : List (Int × Int)) (k : Nat) (h : k ≤ xs.length) : (markedP m xs k).length = xs.length := by
  simp [markedP, markP_length]; omega

theorem markedP_set (m : Int) (xs : List (Int × Int)) (k : Nat) (h : k < xs.length) : (markedP m xs k).set k (m + 2 * (k : Int), m + 2 * (k : Int) + 1) = markedP m xs (k + 1) := by
  unfold markedP
  rw [List.set_append_right _ _ (by simp [markP_length]), markP_length, Nat.sub_self, List.drop_eq_getElem_cons h, List.set_cons_zero]
  simp [markP, List.range_succ]

end Go.Proofs.Ytnldnjgnpdicnaa

namespace Go.Proofs.Ytnldnjgnpdicnaa

/-- One pair comes before another one. -/
def lessC (x y : Int × Int) : Bool := decide (x.1 < y.1 ∨ (x.1 = y.1 ∧ x.2 < y.2))

/-- How many pairs at the head come before c. -/
def headC (c : Int × Int) : List (Int × Int) → Nat
  | [] => 0
  | x :: r => if lessC x c then headC c r + 1 else 0

theorem headC_le (c : Int × Int) (xs : List (Int × Int)) : headC c xs ≤ xs.length := by
  induction xs with
  | nil => simp [headC]
  | cons x r ih => unfold headC; split <;> simp <;> omega

theorem headC_less (c : Int × Int) (xs : List (Int × Int)) (j : Nat) (h : j < headC c xs) : lessC (xs.getD j (0, 0)) c = true := by
  induction xs generalizing j with
  | nil => simp [headC] at h
  | cons x r ih =>
    unfold headC at h
    split at h
    · rename_i hx
      cases j with
      | zero => simpa using hx
      | succ j => simpa using ih j (by omega)
    · omega

theorem headC_stop (c : Int × Int) (xs : List (Int × Int)) (h : headC c xs < xs.length) : lessC (xs.getD (headC c xs) (0, 0)) c = false := by
  induction xs with
  | nil => simp at h
  | cons x r ih =>
    unfold headC at h ⊢
    split
    · rename_i hx
      rw [if_pos hx] at h
      simpa using ih (by simpa using h)
    · rename_i hx
      simpa using hx

/-- A list with one more pair, in its place, unless it is there. -/
def putC (xs : List (Int × Int)) (c : Int × Int) : List (Int × Int) :=
  if headC c xs < xs.length ∧ xs.getD (headC c xs) (0, 0) = c then xs else xs.take (headC c xs) ++ [c] ++ xs.drop (headC c xs)

theorem putC_length (xs : List (Int × Int)) (c : Int × Int) : (putC xs c).length ≤ xs.length + 1 := by
  unfold putC
  split
  · omega
  · have := headC_le c xs
    simp
    omega

end Go.Proofs.Ytnldnjgnpdicnaa

namespace Go.Proofs.Ytnldnjgnpdicnaa

theorem lessC_iff (x y : Int × Int) : lessC x y = true ↔ x.1 < y.1 ∨ (x.1 = y.1 ∧ x.2 < y.2) := by simp [lessC]

theorem lessC_irrefl (x : Int × Int) : ¬ lessC x x = true := by rw [lessC_iff]; omega

theorem lessC_trans {x y z : Int × Int} (h : lessC x y = true) (g : lessC y z = true) : lessC x z = true := by
  rw [lessC_iff] at *; omega

theorem lessC_total (x y : Int × Int) : lessC x y = true ∨ x = y ∨ lessC y x = true := by
  obtain ⟨a, b⟩ := x
  obtain ⟨c, d⟩ := y
  rw [lessC_iff, lessC_iff, Prod.mk.injEq]
  simp only
  omega

/-- Each pair comes before all those behind it. -/
def SortedC (xs : List (Int × Int)) : Prop := xs.Pairwise fun x y => lessC x y = true

theorem SortedC.ext {xs ys : List (Int × Int)} (h : SortedC xs) (g : SortedC ys) (e : ∀ x, x ∈ xs ↔ x ∈ ys) : xs = ys := by
  induction xs generalizing ys with
  | nil =>
    cases ys with
    | nil => rfl
    | cons y r => exact absurd ((e y).2 List.mem_cons_self) (by simp)
  | cons x r ih =>
    cases ys with
    | nil => exact absurd ((e x).1 List.mem_cons_self) (by simp)
    | cons y s =>
      have h1 := List.pairwise_cons.1 h
      have g1 := List.pairwise_cons.1 g
      have hxy : x = y := by
        rcases List.mem_cons.1 ((e x).1 List.mem_cons_self) with hx | hx
        · exact hx
        · rcases List.mem_cons.1 ((e y).2 List.mem_cons_self) with hy | hy
          · exact hy.symm
          · exact absurd (lessC_trans (h1.1 y hy) (g1.1 x hx)) (lessC_irrefl x)
      subst hxy
      rw [ih h1.2 g1.2 fun z => ?_]
      constructor
      · intro hz
        rcases List.mem_cons.1 ((e z).1 (List.mem_cons_of_mem _ hz)) with hh | hh
        · subst hh; exact absurd (h1.1 z hz) (lessC_irrefl z)
        · exact hh
      · intro hz
        rcases List.mem_cons.1 ((e z).2 (List.mem_cons_of_mem _ hz)) with hh | hh
        · subst hh; exact absurd (g1.1 z hz) (lessC_irrefl z)
        · exact hh

/-- One more is put in, in its place. -/
def insC (c : Int × Int) : List (Int × Int) → List (Int × Int)
  | [] => [c]
  | x :: r => if lessC x c then x :: insC c r else if x = c then x :: r else c :: x :: r

theorem headC_cons (c x : Int × Int) (r : List (Int × Int)) : headC c (x :: r) = if lessC x c then headC c r + 1 else 0 := rfl

theorem putC_def (xs : List (Int × Int)) (c : Int × Int) : putC xs c = if headC c xs < xs.length ∧ xs.getD (headC c xs) (0, 0) = c then xs else xs.take (headC c xs) ++ [c] ++ xs.drop (headC c xs) := rfl

theorem putC_ins (xs : List (Int × Int)) (c : Int × Int) : putC xs c = insC c xs := by
  induction xs with
  | nil => simp [putC, headC, insC]
  | cons x r ih =>
    rw [putC_def, headC_cons]
    unfold insC
    by_cases hx : lessC x c = true
    · rw [if_pos hx, if_pos hx, ← ih, putC_def]
      by_cases h : headC c r < r.length ∧ r.getD (headC c r) (0, 0) = c
      · rw [if_pos h, if_pos (by simpa using h)]
      · rw [if_neg h, if_neg (by simpa using h)]
        simp
    · rw [if_neg hx, if_neg hx]
      by_cases h : x = c
      · simp [h]
      · simp [h]

theorem mem_insC (c : Int × Int) (xs : List (Int × Int)) (x : Int × Int) : x ∈ insC c xs ↔ x = c ∨ x ∈ xs := by
  induction xs with
  | nil => simp [insC]
  | cons y r ih =>
    unfold insC
    split
    · simp [ih]; constructor <;> (intro h; rcases h with h | h | h <;> simp [h])
    · split
      · rename_i h; subst h; simp
      · simp

theorem SortedC.ins {xs : List (Int × Int)} (h : SortedC xs) (c : Int × Int) : SortedC (insC c xs) := by
  induction xs with
  | nil => simp [insC, SortedC]
  | cons y r ih =>
    have h1 := List.pairwise_cons.1 h
    unfold insC
    split
    · rename_i hy
      refine List.pairwise_cons.2 ⟨fun z hz => ?_, ih h1.2⟩
      rcases (mem_insC c r z).1 hz with rfl | hz
      · exact hy
      · exact h1.1 z hz
    · rename_i hy
      split
      · exact h
      · rename_i hne
        have hcy : lessC c y = true := by
          rcases lessC_total y c with h2 | h2 | h2
          · exact absurd h2 hy
          · exact absurd h2 hne
          · exact h2
        refine List.pairwise_cons.2 ⟨fun z hz => ?_, h⟩
        rcases List.mem_cons.1 hz with rfl | hz
        · exact hcy
        · exact lessC_trans hcy (h1.1 z hz)

/-- All of them are put in, one after the other. -/
def putAll (xs cs : List (Int × Int)) : List (Int × Int) := cs.foldl putC xs

theorem putAll_snoc (xs cs : List (Int × Int)) (c : Int × Int) : putAll xs (cs ++ [c]) = putC (putAll xs cs) c := by simp [putAll]

theorem putAll_sorted (xs cs : List (Int × Int)) (h : SortedC xs) : SortedC (putAll xs cs) := by
  induction cs generalizing xs with
  | nil => exact h
  | cons c r ih => exact ih _ (by rw [putC_ins]; exact h.ins c)

theorem mem_putAll (xs cs : List (Int × Int)) (x : Int × Int) : x ∈ putAll xs cs ↔ x ∈ xs ∨ x ∈ cs := by
  induction cs generalizing xs with
  | nil => simp [putAll]
  | cons c r ih =>
    have e : putAll xs (c :: r) = putAll (putC xs c) r := rfl
    rw [e, ih, putC_ins, mem_insC, List.mem_cons]
    constructor
    · rintro ((h | h) | h) <;> simp [h]
    · rintro (h | h | h) <;> simp [h]

theorem sortedC_nil : SortedC [] := List.Pairwise.nil

theorem putAll_length (xs cs : List (Int × Int)) : (putAll xs cs).length ≤ xs.length + cs.length := by
  induction cs generalizing xs with
  | nil => simp [putAll]
  | cons c r ih =>
    have e : putAll xs (c :: r) = putAll (putC xs c) r := rfl
    have h1 := ih (putC xs c)
    have h2 := putC_length xs c
    rw [e, List.length_cons]
    omega

end Go.Proofs.Ytnldnjgnpdicnaa

namespace Go.Proofs.Ytnldnjgnpdicnaa
open Go.RowKit

def zeroPairs (n : Nat) : Array Value := madeCells #[Value.int .i64 0, Value.int .i64 0] (n * 2)

theorem flatP_zeros (n : Nat) : flatP (List.replicate n (0, 0)) = List.replicate (n * 2) 0 := by
  induction n with
  | zero => rfl
  | succ n ih =>
    rw [List.replicate_succ, show (n + 1) * 2 = n * 2 + 1 + 1 by omega, List.replicate_succ, List.replicate_succ]
    simp [flatP, ih]

theorem zeroPairs_list (n : Nat) : (zeroPairs n).toList = (flatP (List.replicate n (0, 0))).map (Value.int .i64) := by
  rw [flatP_zeros]
  apply List.ext_getElem?
  intro i
  by_cases h : i < n * 2
  · rcases Nat.mod_two_eq_zero_or_one i with e | e <;> simp [zeroPairs, madeCells, h, e]
  · simp [zeroPairs, madeCells, h]

theorem make_pairs {P : Program} {t e : TypeId} (ht : P.underlying t = some (.slice e)) (hi : (P.info? e).map (fun i => (i.zero, i.size, i.bytes)) = some (some (.agg #[.int .i64 0, .int .i64 0]), 2, 16)) (n : Nat) (hn : n ≤ 1000000000) :
    ∀ W : World, (Instr.makeSlice t (.int .i64 (n : Int)) (.int .i64 (n : Int))).run P W = .ok (.slice (some ⟨W.heap.size, 0, none⟩) n n) (W.alloc (.cells (zeroPairs n) e)) := by
  intro W
  obtain ⟨i, hi, hz0, hz1, hz2⟩ := info_parts hi
  have := run_make (P := P) W t e i (.agg #[.int .i64 0, .int .i64 0]) ht hi hz0 .i64 .i64 (n : Int) (n : Int) (by omega) (Int.le_refl _) (by rw [hz2]; omega) (by omega)
  rw [this, hz1]
  simp [zeroPairs, Value.cells]

/-- 'make([]T, 0, n)' -/
theorem make_pairs0 {P : Program} {t e : TypeId} (ht : P.underlying t = some (.slice e)) (hi : (P.info? e).map (fun i => (i.zero, i.size, i.bytes)) = some (some (.agg #[.int .i64 0, .int .i64 0]), 2, 16)) (n : Nat) (hn : n ≤ 1000000000) :
    ∀ W : World, (Instr.makeSlice t (.int .i64 0) (.int .i64 (n : Int))).run P W = .ok (.slice (some ⟨W.heap.size, 0, none⟩) 0 n) (W.alloc (.cells (zeroPairs n) e)) := by
  intro W
  obtain ⟨i, hi, hz0, hz1, hz2⟩ := info_parts hi
  have := run_make (P := P) W t e i (.agg #[.int .i64 0, .int .i64 0]) ht hi hz0 .i64 .i64 0 (n : Int) (by omega) (by omega) (by rw [hz2]; omega) (by omega)
  rw [this, hz1]
  simp [zeroPairs, Value.cells]

theorem zeroPairs_size (n : Nat) : (zeroPairs n).size = n * 2 := by simp [zeroPairs, size_madeCells]

theorem Pairs.made (W : World) (B : Nat) (e : TypeId) (n : Nat) (hB : B ≤ W.heap.size) (hn : n ≤ 1000000000) :
    Pairs (W.alloc (.cells (zeroPairs n) e)) B e (.slice (some ⟨W.heap.size, 0, none⟩) n n) (List.replicate n (0, 0)) := by
  refine ⟨by simp [flatP_length], .inr ⟨W.heap.size, n, zeroPairs n, by simp, hB, heap_alloc_new W _, by simp, by unfold maxLen; omega, zeroPairs_size n, ?_⟩⟩
  rw [zeroPairs_list, List.take_of_length_le (by simp [flatP_length])]

theorem Pairs.made0 (W : World) (B : Nat) (e : TypeId) (n : Nat) (hB : B ≤ W.heap.size) (hn : n ≤ 1000000000) :
    Pairs (W.alloc (.cells (zeroPairs n) e)) B e (.slice (some ⟨W.heap.size, 0, none⟩) 0 n) [] := by
  refine ⟨by simp [flatP], .inr ⟨W.heap.size, n, zeroPairs n, by simp, hB, heap_alloc_new W _, by simp, by unfold maxLen; omega, zeroPairs_size n, ?_⟩⟩
  simp [flatP]

/-- Both cells of an element are stored. -/
theorem Pairs.stored {w : World} {B g n cap : Nat} {e : TypeId} {xs : List (Int × Int)} (h : Pairs w B e (.slice (some ⟨g, 0, none⟩) n cap) xs) (j : Nat) (hj : j < xs.length) (x y : Int) :
    Pairs ((w.setCell ⟨g, j * 2, none⟩ (.int .i64 x)).setCell ⟨g, j * 2 + 1, none⟩ (.int .i64 y)) B e (.slice (some ⟨g, 0, none⟩) n cap) (xs.set j (x, y)) ∧ w.grownBy ((w.setCell ⟨g, j * 2, none⟩ (.int .i64 x)).setCell ⟨g, j * 2 + 1, none⟩ (.int .i64 y)) (some g) := by
  have s0 := h.stored0 j x
  have s1 := s0.1.stored1 j y
  have e1 : (xs.set j (x, (xs.getD j (0, 0)).2)).set j (((xs.set j (x, (xs.getD j (0, 0)).2)).getD j (0, 0)).1, y) = xs.set j (x, y) := by
    rw [List.set_set, List.getD_eq_getElem?_getD (l := xs.set j _), List.getElem?_set_self hj]
    rfl
  rw [e1] at s1
  exact ⟨s1.1, grownBy_trans s0.2 s1.2⟩

/-- 'append(out, T{x, y})' onto pairs of the call's own. -/
theorem wpList_append_pair {P : Program} {wr : World} {ops : Array Oper} {rest : List Oper} {o : Oper} {a : Act} {Q : Exit → Act → World → Prop} (hgd : o.guard = none) (s x : Operand) (t : TypeId)
    (ho : o.op = .call { callee := .builtin .append, args := #[s, x], argTypes := #[t, t] }) (base : Nat) (e : TypeId) (ht : P.underlying t = some (.slice e))
    (hi : (P.info? e).map (fun i => (i.zero, i.size, i.bytes)) = some (some (.agg #[.int .i64 0, .int .i64 0]), 2, 16)) (v : Value) (xs : List (Int × Int)) (hs : a.eval s = v) (hI : Pairs wr base e v xs) (y z : Int)
    (hx : a.eval x = .slice (some ⟨wr.heap.size, 0, none⟩) 1 1) (hn : xs.length < 1000000000) (hbase : base ≤ wr.heap.size)
    (h : ∀ v' w', Pairs w' base e v' (xs ++ [(y, z)]) → wr.grownBy w' v.ownBlock → wpList P ops Q rest (a.put o.dst v') w') :
    wpList P ops Q (o :: rest) a (wr.alloc (.cells #[.int .i64 y, .int .i64 z] e)) := by
  obtain ⟨i, hi, hz0, hz1, hz2⟩ := info_parts hi
  refine wpList_append_own _ hgd s x t ho base e i (.agg #[.int .i64 0, .int .i64 0]) 2 16 ht hi hz0 hz1 hz2 rfl (by decide) v xs.length _ hs (World.ownsRow.alloc hI _) ⟨wr.heap.size, 0, none⟩ 1 1 [.int .i64 y, .int .i64 z] hx rfl ?_ ?_ (by unfold maxLen; omega) (by omega) (by simp; omega) ?_
  · intro j u hu
    match j with
    | 0 =>
      simp at hu
      subst hu
      exact cell_of_row _ wr.heap.size 0 #[.int .i64 y, .int .i64 z] e _ (heap_alloc_new wr _)
    | 1 =>
      simp at hu
      subst hu
      exact cell_of_row _ wr.heap.size 1 #[.int .i64 y, .int .i64 z] e _ (heap_alloc_new wr _)
    | j + 2 => simp at hu
  · intro u hu
    simp at hu
    rcases hu with rfl | rfl <;> rfl
  · intro v' w' h1 h2 _
    refine h v' w' ?_ (grownBy_trans (World.grownBy_alloc _ _ _) h2)
    have e1 : (xs ++ [(y, z)]).length = xs.length + 1 := by simp
    unfold Pairs
    rw [e1, flatP_append, List.map_append]
    exact h1

theorem Pairs.later {w w' : World} {B : Nat} {e : TypeId} {v : Value} {xs : List (Int × Int)} (h : Pairs w B e v xs) (hb : Below w.heap.size w w') : Pairs w' B e v xs :=
  World.ownsRow.kept h (Below.by hb) (by cases hv : v.ownBlock with | none => exact .inl rfl | some k => exact .inr (by simp))

theorem Pairs.mono {w : World} {B B' : Nat} {e : TypeId} {v : Value} {xs : List (Int × Int)} (h : Pairs w B e v xs) (hb : B' ≤ B) : Pairs w B' e v xs := World.ownsRow.mono h hb

theorem Pairs.below {w0 w w' : World} {B : Nat} {e : TypeId} {v : Value} {xs : List (Int × Int)} (h : Pairs w B e v xs) (hb : Below B w0 w) (hB : B ≤ w.heap.size) (hg : w.grownBy w' v.ownBlock) : Below B w0 w' :=
  hb.grown hg hB fun k hk => (h.own k hk).1

theorem PairsIn.wider {e : TypeId} {w : World} {B T B' T' : Nat} {v : Value} {xs : List (Int × Int)} (h : PairsIn e w B T v xs) (hB : B' ≤ B) (hT : T ≤ T') : PairsIn e w B' T' v xs :=
  ⟨h.1.mono hB, fun k hk => Nat.lt_of_lt_of_le (h.2 k hk) hT⟩

end Go.Proofs.Ytnldnjgnpdicnaa

namespace Go.Proofs.Ytnldnjgnpdicnaa
open Go.RowKit

/-- The slice v, wherever it lies, holds the pairs xs. -/
def SrcP (w : World) (v : Value) (xs : List (Int × Int)) : Prop :=
  (v = .slice none 0 0 ∧ xs = []) ∨ ∃ (b off cap : Nat), v = .slice (some ⟨b, off, none⟩) xs.length cap ∧ xs.length ≤ maxLen ∧
    ∀ i, i < xs.length → w.cell? ⟨b, off + i * 2, none⟩ = some (.int .i64 (xs.getD i (0, 0)).1) ∧ w.cell? ⟨b, off + (i * 2 + 1), none⟩ = some (.int .i64 (xs.getD i (0, 0)).2)

theorem SrcP.later {w w' : World} {v : Value} {xs : List (Int × Int)} (h : SrcP w v xs) (hb : Below w.heap.size w w') : SrcP w' v xs := by
  rcases h with h | ⟨b, off, cap, hv, hm, hc⟩
  · exact .inl h
  · exact .inr ⟨b, off, cap, hv, hm, fun i hi => ⟨(hb.cell (World.block_lt_of_cell? w _ (hc i hi).1)).trans (hc i hi).1, (hb.cell (World.block_lt_of_cell? w _ (hc i hi).2)).trans (hc i hi).2⟩⟩

theorem flatP_cells {w : World} {b off : Nat} {xs : List (Int × Int)} (hc : ∀ i, i < xs.length → w.cell? ⟨b, off + i * 2, none⟩ = some (.int .i64 (xs.getD i (0, 0)).1) ∧ w.cell? ⟨b, off + (i * 2 + 1), none⟩ = some (.int .i64 (xs.getD i (0, 0)).2)) :
    ∀ j u, ((flatP xs).map (Value.int .i64))[j]? = some u → w.cell? ((⟨b, off, none⟩ : Addr).add j) = some u := by
  intro j u hu
  rw [List.getElem?_map] at hu
  have hj : j < (flatP xs).length := by
    rcases Nat.lt_or_ge j (flatP xs).length with h | h
    · exact h
    · rw [List.getElem?_eq_none h] at hu; cases hu
  rw [List.getElem?_eq_getElem hj] at hu
  simp only [Option.map_some, Option.some.injEq] at hu
  subst hu
  have hadd : (⟨b, off, none⟩ : Addr).add j = ⟨b, off + j, none⟩ := by unfold Addr.add; split <;> simp_all
  rw [hadd]
  have hl := flatP_length xs
  rcases Nat.mod_two_eq_zero_or_one j with e | e
  · have hk : j = (j / 2) * 2 := by omega
    have h0 := flatP_get0 xs (j / 2)
    rw [← hk, List.getD_eq_getElem?_getD, List.getElem?_eq_getElem hj] at h0
    have h1 := (hc (j / 2) (by omega)).1
    rw [← hk] at h1
    rw [h1]
    simp only [Option.getD_some] at h0
    rw [h0]
  · have hk : j = (j / 2) * 2 + 1 := by omega
    have h0 := flatP_get1 xs (j / 2)
    rw [← hk, List.getD_eq_getElem?_getD, List.getElem?_eq_getElem hj] at h0
    have h1 := (hc (j / 2) (by omega)).2
    rw [← hk] at h1
    rw [h1]
    simp only [Option.getD_some] at h0
    rw [h0]

theorem run_append_pairs {P : Program} {w : World} (t ty : TypeId) (B : Nat) (e : TypeId) (ht : P.underlying t = some (.slice e))
    (hi : (P.info? e).map (fun i => (i.zero, i.size, i.bytes)) = some (some (.agg #[.int .i64 0, .int .i64 0]), 2, 16)) (v x : Value) (xs ys : List (Int × Int)) (hI : Pairs w B e v xs) (hx : SrcP w x ys)
    (hn : xs.length + ys.length ≤ 1000000000) (hB : B ≤ w.heap.size) :
    ∃ v' w', (Builtin.append_ #[t, t] ty #[v, x]).run P w = .ok v' w' ∧ Pairs w' B e v' (xs ++ ys) ∧ w.grownBy w' v.ownBlock ∧ (v'.ownBlock = v.ownBlock ∨ v'.ownBlock = some w.heap.size) := by
  obtain ⟨i, hi, hz0, hz1, hz2⟩ := info_parts hi
  rcases hx with ⟨rfl, rfl⟩ | ⟨b, off, cap, rfl, hm, hc⟩
  · refine ⟨v, w, run_append_owned_none (P := P) (w := w) B t ty e i 2 ht hi v xs.length _ hI, by rw [List.append_nil]; exact hI, grownBy_refl _ _, .inl rfl⟩
  · obtain ⟨v', w', hr, h2, h3, _, h5⟩ := run_append_own_at (P := P) w B t ty e i (.agg #[.int .i64 0, .int .i64 0]) 2 16 ht hi hz0 hz1 hz2 rfl (by decide) v xs.length _ hI ⟨b, off, none⟩ ys.length cap ((flatP ys).map (Value.int .i64))
      (by simp [flatP_length]) (flatP_cells hc) (by intro u hu; obtain ⟨z, _, rfl⟩ := List.mem_map.1 hu; rfl) (by unfold maxLen; omega) (by omega) hB
    refine ⟨v', w', hr, ?_, h3, h5⟩
    unfold Pairs
    rw [List.length_append, flatP_append, List.map_append]
    exact h2

/-- At the operation. -/
theorem wp_append_pairs {P : Program} {w : World} {o : Oper} {a : Act} {K : Act → World → Prop} {Q : Exit → Act → World → Prop} (s x : Operand) (t : TypeId)
    (ho : o.op = .call { callee := .builtin .append, args := #[s, x], argTypes := #[t, t] }) (B : Nat) (e : TypeId) (ht : P.underlying t = some (.slice e))
    (hi : (P.info? e).map (fun i => (i.zero, i.size, i.bytes)) = some (some (.agg #[.int .i64 0, .int .i64 0]), 2, 16)) (v u : Value) (xs ys : List (Int × Int)) (hs : a.eval s = v) (hu : a.eval x = u) (hI : Pairs w B e v xs) (hx : SrcP w u ys)
    (hn : xs.length + ys.length ≤ 1000000000) (hB : B ≤ w.heap.size)
    (h : ∀ v' w', Pairs w' B e v' (xs ++ ys) → w.grownBy w' v.ownBlock → (v'.ownBlock = v.ownBlock ∨ v'.ownBlock = some w.heap.size) → K (a.put o.dst v') w') : o.wp P a w K Q := by
  obtain ⟨v', w', hr, h2, h3, h5⟩ := run_append_pairs (P := P) (w := w) t o.type B e ht hi v u xs ys hI hx hn hB
  unfold Oper.wp execOp
  simp only [ho, resolve, invoke, builtin, Sem.run_bind, Sem.run_pure, Result.andThen_ok, List.map_toArray, List.map_cons, List.map_nil, hs, hu, hr]
  exact h v' w' h2 h3 h5

/-- At the list of a region's operations. -/
theorem wpList_append_pairs {P : Program} {w : World} {ops : Array Oper} {rest : List Oper} {o : Oper} {a : Act} {Q : Exit → Act → World → Prop} (hgd : o.guard = none) (s x : Operand) (t : TypeId)
    (ho : o.op = .call { callee := .builtin .append, args := #[s, x], argTypes := #[t, t] }) (B : Nat) (e : TypeId) (ht : P.underlying t = some (.slice e))
    (hi : (P.info? e).map (fun i => (i.zero, i.size, i.bytes)) = some (some (.agg #[.int .i64 0, .int .i64 0]), 2, 16)) (v u : Value) (xs ys : List (Int × Int)) (hs : a.eval s = v) (hu : a.eval x = u) (hI : Pairs w B e v xs) (hx : SrcP w u ys)
    (hn : xs.length + ys.length ≤ 1000000000) (hB : B ≤ w.heap.size)
    (h : ∀ v' w', Pairs w' B e v' (xs ++ ys) → w.grownBy w' v.ownBlock → (v'.ownBlock = v.ownBlock ∨ v'.ownBlock = some w.heap.size) → wpList P ops Q rest (a.put o.dst v') w') :
    wpList P ops Q (o :: rest) a w := by
  refine wpList_plain hgd fun K' hK => ?_
  obtain ⟨v', w', hr, h2, h3, h5⟩ := run_append_pairs (P := P) (w := w) t o.type B e ht hi v u xs ys hI hx hn hB
  unfold Oper.wp execOp
  simp only [ho, resolve, invoke, builtin, Sem.run_bind, Sem.run_pure, Result.andThen_ok, List.map_toArray, List.map_cons, List.map_nil, hs, hu, hr]
  exact hK _ _ (h v' w' h2 h3 h5)

/-- A literal's own row. -/
theorem Pairs.boxed (W : World) (B : Nat) (e : TypeId) (xs : List (Int × Int)) (hB : B ≤ W.heap.size) (hn : xs.length ≤ 1000000000) :
    Pairs (W.alloc (.cells ((flatP xs).map (Value.int .i64)).toArray e)) B e (.slice (some ⟨W.heap.size, 0, none⟩) xs.length xs.length) xs := by
  refine ⟨by simp [flatP_length], .inr ⟨W.heap.size, xs.length, _, rfl, hB, heap_alloc_new W _, Nat.le_refl _, by unfold maxLen; omega, by simp [flatP_length], ?_⟩⟩
  rw [List.take_of_length_le (by simp [flatP_length])]

/-- What a row of the call's own holds can be read. -/
theorem Pairs.src {w : World} {B : Nat} {e : TypeId} {v : Value} {xs : List (Int × Int)} (h : Pairs w B e v xs) : SrcP w v xs := by
  have h0 := h
  obtain ⟨hl, ⟨hv, hn⟩ | ⟨g, cap, cur, hv, hB, hg, hn, hm, hs, ht⟩⟩ := h0
  · exact .inl ⟨hv, List.eq_nil_of_length_eq_zero hn⟩
  · subst hv
    exact .inr ⟨g, 0, cap, rfl, by omega, fun i hi => ⟨by rw [Nat.zero_add]; exact h.cell0 i hi, by rw [Nat.zero_add]; exact h.cell1 i hi⟩⟩

theorem getD_take {α : Type} (xs : List α) (z : α) (k i : Nat) (h : i < k) : (xs.take k).getD i z = xs.getD i z := by
  rw [List.getD_eq_getElem?_getD, List.getD_eq_getElem?_getD, List.getElem?_take, if_pos h]

theorem getD_drop {α : Type} (xs : List α) (z : α) (k i : Nat) : (xs.drop k).getD i z = xs.getD (k + i) z := by
  rw [List.getD_eq_getElem?_getD, List.getD_eq_getElem?_getD, List.getElem?_drop]

/-- 'list[:k]' and 'list[k:]' of a row that lies at the head of its block. -/
theorem src_take {w : World} {g n cap k : Nat} {xs : List (Int × Int)} (h : SrcP w (.slice (some ⟨g, 0, none⟩) n cap) xs) (hk : k ≤ xs.length) : SrcP w (.slice (some ⟨g, 0, none⟩) k cap) (xs.take k) := by
  rcases h with ⟨h, _⟩ | ⟨b, off, c, hv, hm, hc⟩
  · cases h
  · cases hv
    have hl : (xs.take k).length = k := by simp; omega
    refine .inr ⟨g, 0, cap, by rw [hl], by omega, fun i hi => ?_⟩
    rw [getD_take _ _ _ _ (by omega)]
    exact hc i (by omega)

theorem src_drop {w : World} {g n cap c' k : Nat} {xs : List (Int × Int)} (h : SrcP w (.slice (some ⟨g, 0, none⟩) n cap) xs) (hk : k ≤ xs.length) : SrcP w (.slice (some ⟨g, k * 2, none⟩) (xs.length - k) c') (xs.drop k) := by
  rcases h with ⟨h, _⟩ | ⟨b, off, c, hv, hm, hc⟩
  · cases h
  · cases hv
    refine .inr ⟨g, k * 2, c', by simp, by simp; omega, fun i hi => ?_⟩
    rw [List.length_drop] at hi
    have := hc (k + i) (by omega)
    rw [getD_drop]
    rw [show k * 2 + i * 2 = 0 + (k + i) * 2 by omega, show k * 2 + (i * 2 + 1) = 0 + ((k + i) * 2 + 1) by omega]
    exact this

/-- The same as the walk writes it: behind the whole capacity the address stays. -/
theorem src_drop_if {w : World} {g n cap c' k : Nat} {xs : List (Int × Int)} (h : SrcP w (.slice (some ⟨g, 0, none⟩) n cap) xs) (hk : k ≤ xs.length) (hc : xs.length ≤ cap) :
    SrcP w (.slice (if cap = k then some ⟨g, 0, none⟩ else some ⟨g, k * 2, none⟩) (xs.length - k) c') (xs.drop k) := by
  by_cases e : cap = k
  · rw [if_pos e]
    have hl : (xs.drop k).length = 0 := by simp; omega
    exact .inr ⟨g, 0, c', by rw [hl, show xs.length - k = 0 by omega], by omega, fun i hi => by omega⟩
  · rw [if_neg e]
    exact src_drop h hk

end Go.Proofs.Ytnldnjgnpdicnaa

namespace Go.Proofs.Ytnldnjgnpdicnaa
open Go.RowKit

abbrev Tri := Int × Int × Int

/-- The cells of triples, one after the other. -/
def flatT : List Tri → List Int
  | [] => []
  | p :: r => p.1 :: p.2.1 :: p.2.2 :: flatT r

abbrev noT : Tri := (0, 0, 0)

theorem flatT_length (xs : List Tri) : (flatT xs).length = xs.length * 3 := by
  induction xs with
  | nil => rfl
  | cons p r ih => simp [flatT, ih]; omega

theorem flatT_get0 (xs : List Tri) (k : Nat) : (flatT xs).getD (k * 3) 0 = (xs.getD k noT).1 := by
  induction xs generalizing k with
  | nil => simp [flatT]
  | cons p r ih =>
    cases k with
    | zero => simp [flatT]
    | succ k =>
      rw [show (k + 1) * 3 = k * 3 + 1 + 1 + 1 by omega]
      simpa [flatT] using ih k

theorem flatT_get1 (xs : List Tri) (k : Nat) : (flatT xs).getD (k * 3 + 1) 0 = (xs.getD k noT).2.1 := by
  induction xs generalizing k with
  | nil => simp [flatT]
  | cons p r ih =>
    cases k with
    | zero => simp [flatT]
    | succ k =>
      rw [show (k + 1) * 3 + 1 = k * 3 + 1 + 1 + 1 + 1 by omega]
      simpa [flatT] using ih k

theorem flatT_get2 (xs : List Tri) (k : Nat) : (flatT xs).getD (k * 3 + 2) 0 = (xs.getD k noT).2.2 := by
  induction xs generalizing k with
  | nil => simp [flatT]
  | cons p r ih =>
    cases k with
    | zero => simp [flatT]
    | succ k =>
      rw [show (k + 1) * 3 + 2 = k * 3 + 2 + 1 + 1 + 1 by omega]
      simpa [flatT] using ih k

theorem flatT_set (xs : List Tri) (k : Nat) (x y z : Int) : (((flatT xs).set (k * 3) x).set (k * 3 + 1) y).set (k * 3 + 2) z = flatT (xs.set k (x, y, z)) := by
  induction xs generalizing k with
  | nil => simp [flatT]
  | cons p r ih =>
    cases k with
    | zero => simp [flatT]
    | succ k =>
      rw [show (k + 1) * 3 = k * 3 + 1 + 1 + 1 by omega, show k * 3 + 1 + 1 + 1 + 1 = k * 3 + 1 + 1 + 1 + 1 by omega]
      have := ih k
      simpa [flatT] using this

theorem flatT_append (xs ys : List Tri) : flatT (xs ++ ys) = flatT xs ++ flatT ys := by
  induction xs with
  | nil => rfl
  | cons p r ih => simp [flatT, ih]

/-- The slice v holds the triples xs. -/
def Trips (w : World) (B : Nat) (e : TypeId) (v : Value) (xs : List Tri) : Prop := w.ownsRow B e 3 v xs.length ((flatT xs).map (Value.int .i64))

def TripsIn (e : TypeId) (w : World) (B T : Nat) (v : Value) (xs : List Tri) : Prop := Trips w B e v xs ∧ ∀ k, v.ownBlock = some k → k < T

theorem Trips.len {w : World} {B g n cap : Nat} {e : TypeId} {xs : List Tri} (h : Trips w B e (.slice (some ⟨g, 0, none⟩) n cap) xs) : n = xs.length := by
  rcases h.2 with ⟨hv, _⟩ | ⟨_, _, _, hv, _⟩
  · cases hv
  · cases hv; rfl

theorem Trips.cellAny {w : World} {B g n cap : Nat} {e : TypeId} {xs : List Tri} (h : Trips w B e (.slice (some ⟨g, 0, none⟩) n cap) xs) (j : Nat) (hj : j < xs.length * 3) : w.cell? ⟨g, j, none⟩ = some (.int .i64 ((flatT xs).getD j 0)) := by
  obtain rfl := h.len
  rw [World.ownsRow.cellAt h j hj, List.getElem?_map, List.getElem?_eq_getElem (by rw [flatT_length]; omega), List.getD_eq_getElem?_getD, List.getElem?_eq_getElem (by rw [flatT_length]; omega)]
  rfl

theorem Trips.cell0 {w : World} {B g n cap : Nat} {e : TypeId} {xs : List Tri} (h : Trips w B e (.slice (some ⟨g, 0, none⟩) n cap) xs) (i : Nat) (hi : i < xs.length) : w.cell? ⟨g, i * 3, none⟩ = some (.int .i64 (xs.getD i noT).1) := by
  rw [h.cellAny (i * 3) (by omega), flatT_get0]
theorem Trips.cell1 {w : World} {B g n cap : Nat} {e : TypeId} {xs : List Tri} (h : Trips w B e (.slice (some ⟨g, 0, none⟩) n cap) xs) (i : Nat) (hi : i < xs.length) : w.cell? ⟨g, i * 3 + 1, none⟩ = some (.int .i64 (xs.getD i noT).2.1) := by
  rw [h.cellAny (i * 3 + 1) (by omega), flatT_get1]
theorem Trips.cell2 {w : World} {B g n cap : Nat} {e : TypeId} {xs : List Tri} (h : Trips w B e (.slice (some ⟨g, 0, none⟩) n cap) xs) (i : Nat) (hi : i < xs.length) : w.cell? ⟨g, i * 3 + 2, none⟩ = some (.int .i64 (xs.getD i noT).2.2) := by
  rw [h.cellAny (i * 3 + 2) (by omega), flatT_get2]

theorem Trips.frozenAt {w : World} {B g n cap : Nat} {e : TypeId} {xs : List Tri} (h : Trips w B e (.slice (some ⟨g, 0, none⟩) n cap) xs) (i : Nat) : w.frozen? ⟨g, i, none⟩ = false := by
  obtain rfl := h.len
  exact World.ownsRow.frozenAt h i

/-- All cells of an element are stored. -/
theorem Trips.stored {w : World} {B g n cap : Nat} {e : TypeId} {xs : List Tri} (h : Trips w B e (.slice (some ⟨g, 0, none⟩) n cap) xs) (j : Nat) (x y z : Int) :
    Trips (((w.setCell ⟨g, j * 3, none⟩ (.int .i64 x)).setCell ⟨g, j * 3 + 1, none⟩ (.int .i64 y)).setCell ⟨g, j * 3 + 2, none⟩ (.int .i64 z)) B e (.slice (some ⟨g, 0, none⟩) n cap) (xs.set j (x, y, z)) ∧
      w.grownBy (((w.setCell ⟨g, j * 3, none⟩ (.int .i64 x)).setCell ⟨g, j * 3 + 1, none⟩ (.int .i64 y)).setCell ⟨g, j * 3 + 2, none⟩ (.int .i64 z)) (some g) := by
  obtain rfl := h.len
  have h0 := World.ownsRow.stored h (j * 3) (.int .i64 x)
  have h1 := World.ownsRow.stored h0.1 (j * 3 + 1) (.int .i64 y)
  have h2 := World.ownsRow.stored h1.1 (j * 3 + 2) (.int .i64 z)
  refine ⟨?_, grownBy_trans (grownBy_trans h0.2 h1.2) h2.2⟩
  unfold Trips
  rw [List.length_set, ← flatT_set, List.map_set, List.map_set, List.map_set]
  exact h2.1

theorem Trips.view {w : World} {B : Nat} {e : TypeId} {v : Value} {xs : List Tri} (h : Trips w B e v xs) :
    ∃ (a0 : Option Addr) (cap g : Nat), v = .slice a0 xs.length cap ∧ (0 < xs.length → a0 = some ⟨g, 0, none⟩) ∧ xs.length ≤ maxLen ∧
      ∀ i, i < xs.length → w.cell? ⟨g, i * 3, none⟩ = some (.int .i64 (xs.getD i noT).1) ∧ w.cell? ⟨g, i * 3 + 1, none⟩ = some (.int .i64 (xs.getD i noT).2.1) ∧ w.cell? ⟨g, i * 3 + 2, none⟩ = some (.int .i64 (xs.getD i noT).2.2) := by
  have h0 := h
  obtain ⟨hl, h1 | ⟨g, cap, cur, hv, hB, hg, hn, hm, hs, ht⟩⟩ := h0
  · obtain ⟨hv, hn⟩ := h1
    exact ⟨none, 0, 0, by rw [hn]; exact hv, fun h => by omega, by omega, fun i hi => by omega⟩
  · subst hv
    exact ⟨some ⟨g, 0, none⟩, cap, g, rfl, fun _ => rfl, by omega, fun i hi => ⟨h.cell0 i hi, h.cell1 i hi, h.cell2 i hi⟩⟩

theorem Trips.own {w : World} {B : Nat} {e : TypeId} {v : Value} {xs : List Tri} (h : Trips w B e v xs) : ∀ k, v.ownBlock = some k → B ≤ k ∧ k < w.heap.size := World.ownsRow.lt h
theorem Trips.drewN {w : World} {B : Nat} {e : TypeId} {v : Value} {xs : List Tri} (h : Trips w B e v xs) (n : Nat) : Trips (w.drewN n) B e v xs := h
theorem TripsIn.trips {e : TypeId} {w : World} {B T : Nat} {v : Value} {xs : List Tri} (h : TripsIn e w B T v xs) : Trips w B e v xs := h.1
theorem TripsIn.own {e : TypeId} {w : World} {B T : Nat} {v : Value} {xs : List Tri} (h : TripsIn e w B T v xs) : ∀ k, v.ownBlock = some k → B ≤ k ∧ k < T := fun k hk => ⟨(h.1.own k hk).1, h.2 k hk⟩

theorem TripsIn.keep {e : TypeId} {w w' : World} {B T : Nat} {v : Value} {xs : List Tri} (h : TripsIn e w B T v xs) (hs : Same B T w w') : TripsIn e w' B T v xs := by
  refine ⟨⟨h.1.1, ?_⟩, h.2⟩
  rcases h.1.2 with h1 | ⟨g, cap, cur, hv, hB, hg, hn, hm, hz, ht⟩
  · exact .inl h1
  · refine .inr ⟨g, cap, cur, hv, hB, ?_, hn, hm, hz, ht⟩
    rw [hs g hB (h.2 g (by rw [hv]; rfl)), hg]

theorem TripsIn.nil (e : TypeId) (w : World) (B T : Nat) : TripsIn e w B T (.slice none 0 0) [] := ⟨World.ownsRow_nil _ _ _ _, fun k hk => by simp [Value.ownBlock] at hk⟩
theorem Trips.inn {e : TypeId} {w : World} {B : Nat} {v : Value} {xs : List Tri} (h : Trips w B e v xs) : TripsIn e w B w.heap.size v xs := ⟨h, fun k hk => (h.own k hk).2⟩
theorem Trips.later {w w' : World} {B : Nat} {e : TypeId} {v : Value} {xs : List Tri} (h : Trips w B e v xs) (hb : Below w.heap.size w w') : Trips w' B e v xs :=
  World.ownsRow.kept h (Below.by hb) (by cases hv : v.ownBlock with | none => exact .inl rfl | some k => exact .inr (by simp))
theorem Trips.mono {w : World} {B B' : Nat} {e : TypeId} {v : Value} {xs : List Tri} (h : Trips w B e v xs) (hb : B' ≤ B) : Trips w B' e v xs := World.ownsRow.mono h hb
theorem Trips.below {w0 w w' : World} {B : Nat} {e : TypeId} {v : Value} {xs : List Tri} (h : Trips w B e v xs) (hb : Below B w0 w) (hB : B ≤ w.heap.size) (hg : w.grownBy w' v.ownBlock) : Below B w0 w' :=
  hb.grown hg hB fun k hk => (h.own k hk).1
theorem TripsIn.wider {e : TypeId} {w : World} {B T B' T' : Nat} {v : Value} {xs : List Tri} (h : TripsIn e w B T v xs) (hB : B' ≤ B) (hT : T ≤ T') : TripsIn e w B' T' v xs :=
  ⟨h.1.mono hB, fun k hk => Nat.lt_of_lt_of_le (h.2 k hk) hT⟩

/-- The marks of triples. -/
def markT (m : Int) (n : Nat) : List Tri := (List.range n).map fun (i : Nat) => (m + 3 * (i : Int), m + 3 * (i : Int) + 1, m + 3 * (i : Int) + 2)
theorem markT_length (m : Int) (n : Nat) : (markT m n).length = n := by simp [markT]
theorem markT_get (m : Int) (n i : Nat) (h : i < n) : (markT m n).getD i noT = (m + 3 * (i : Int), m + 3 * (i : Int) + 1, m + 3 * (i : Int) + 2) := by
  simp [markT, List.getD, List.getElem?_map, List.getElem?_range h]
def markedT (m : Int) (xs : List Tri) (k : Nat) : List Tri := markT m k ++ xs.drop k
theorem markedT_zero (m : Int) (xs : List Tri) : markedT m xs 0 = xs := by simp [markedT, markT]
theorem markedT_all (m : Int) (xs : List Tri) : markedT m xs xs.length = markT m xs.length := by simp [markedT]
theorem markedT_length (m : Int) (xs : List Tri) (k : Nat) (h : k ≤ xs.length) : (markedT m xs k).length = xs.length := by
  simp [markedT, markT_length]; omega
theorem markedT_set (m : Int) (xs : List Tri) (k : Nat) (h : k < xs.length) : (markedT m xs k).set k (m + 3 * (k : Int), m + 3 * (k : Int) + 1, m + 3 * (k : Int) + 2) = markedT m xs (k + 1) := by
  unfold markedT
  rw [List.set_append_right _ _ (by simp [markT_length]), markT_length, Nat.sub_self, List.drop_eq_getElem_cons h, List.set_cons_zero]
  simp [markT, List.range_succ]

/-! made -/
def zeroTrips (n : Nat) : Array Value := madeCells #[Value.int .i64 0, Value.int .i64 0, Value.int .i64 0] (n * 3)

theorem flatT_zeros (n : Nat) : flatT (List.replicate n noT) = List.replicate (n * 3) 0 := by
  induction n with
  | zero => rfl
  | succ n ih =>
    rw [List.replicate_succ, show (n + 1) * 3 = n * 3 + 1 + 1 + 1 by omega, List.replicate_succ, List.replicate_succ, List.replicate_succ]
    simp [flatT, ih]

theorem zeroTrips_list (n : Nat) : (zeroTrips n).toList = (flatT (List.replicate n noT)).map (Value.int .i64) := by
  rw [flatT_zeros]
  apply List.ext_getElem?
  intro i
  by_cases h : i < n * 3
  · have e : i % 3 = 0 ∨ i % 3 = 1 ∨ i % 3 = 2 := by omega
    rcases e with e | e | e <;> simp [zeroTrips, madeCells, h, e]
  · simp [zeroTrips, madeCells, h]

theorem make_trips {P : Program} {t e : TypeId} (ht : P.underlying t = some (.slice e)) (hi : (P.info? e).map (fun i => (i.zero, i.size, i.bytes)) = some (some (.agg #[.int .i64 0, .int .i64 0, .int .i64 0]), 3, 24)) (n : Nat) (hn : n ≤ 1000000000) :
    ∀ W : World, (Instr.makeSlice t (.int .i64 (n : Int)) (.int .i64 (n : Int))).run P W = .ok (.slice (some ⟨W.heap.size, 0, none⟩) n n) (W.alloc (.cells (zeroTrips n) e)) := by
  intro W
  obtain ⟨i, hi, hz0, hz1, hz2⟩ := info_parts hi
  have := run_make (P := P) W t e i (.agg #[.int .i64 0, .int .i64 0, .int .i64 0]) ht hi hz0 .i64 .i64 (n : Int) (n : Int) (by omega) (Int.le_refl _) (by rw [hz2]; omega) (by omega)
  rw [this, hz1]
  simp [zeroTrips, Value.cells]

theorem zeroTrips_size (n : Nat) : (zeroTrips n).size = n * 3 := by simp [zeroTrips, size_madeCells]

theorem Trips.made (W : World) (B : Nat) (e : TypeId) (n : Nat) (hB : B ≤ W.heap.size) (hn : n ≤ 1000000000) :
    Trips (W.alloc (.cells (zeroTrips n) e)) B e (.slice (some ⟨W.heap.size, 0, none⟩) n n) (List.replicate n noT) := by
  refine ⟨by simp [flatT_length], .inr ⟨W.heap.size, n, zeroTrips n, by simp, hB, heap_alloc_new W _, by simp, by unfold maxLen; omega, zeroTrips_size n, ?_⟩⟩
  rw [zeroTrips_list, List.take_of_length_le (by simp [flatT_length])]

/-- 'append(out, T{x, y, z})' onto triples of the call's own. -/
theorem wpList_append_trip {P : Program} {wr : World} {ops : Array Oper} {rest : List Oper} {o : Oper} {a : Act} {Q : Exit → Act → World → Prop} (hgd : o.guard = none) (s x : Operand) (t : TypeId)
    (ho : o.op = .call { callee := .builtin .append, args := #[s, x], argTypes := #[t, t] }) (base : Nat) (e : TypeId) (ht : P.underlying t = some (.slice e))
    (hi : (P.info? e).map (fun i => (i.zero, i.size, i.bytes)) = some (some (.agg #[.int .i64 0, .int .i64 0, .int .i64 0]), 3, 24)) (v : Value) (xs : List Tri) (hs : a.eval s = v) (hI : Trips wr base e v xs) (y z u : Int)
    (hx : a.eval x = .slice (some ⟨wr.heap.size, 0, none⟩) 1 1) (hn : xs.length < 1000000000) (hbase : base ≤ wr.heap.size)
    (h : ∀ v' w', Trips w' base e v' (xs ++ [(y, z, u)]) → wr.grownBy w' v.ownBlock → wpList P ops Q rest (a.put o.dst v') w') :
    wpList P ops Q (o :: rest) a (wr.alloc (.cells #[.int .i64 y, .int .i64 z, .int .i64 u] e)) := by
  obtain ⟨i, hi, hz0, hz1, hz2⟩ := info_parts hi
  refine wpList_append_own _ hgd s x t ho base e i (.agg #[.int .i64 0, .int .i64 0, .int .i64 0]) 3 24 ht hi hz0 hz1 hz2 rfl (by decide) v xs.length _ hs (World.ownsRow.alloc hI _) ⟨wr.heap.size, 0, none⟩ 1 1 [.int .i64 y, .int .i64 z, .int .i64 u] hx rfl ?_ ?_ (by unfold maxLen; omega) (by omega) (by simp; omega) ?_
  · intro j u' hu
    match j with
    | 0 =>
      simp at hu
      subst hu
      exact cell_of_row _ wr.heap.size 0 #[.int .i64 y, .int .i64 z, .int .i64 u] e _ (heap_alloc_new wr _)
    | 1 =>
      simp at hu
      subst hu
      exact cell_of_row _ wr.heap.size 1 #[.int .i64 y, .int .i64 z, .int .i64 u] e _ (heap_alloc_new wr _)
    | 2 =>
      simp at hu
      subst hu
      exact cell_of_row _ wr.heap.size 2 #[.int .i64 y, .int .i64 z, .int .i64 u] e _ (heap_alloc_new wr _)
    | j + 3 => simp at hu
  · intro u' hu
    simp at hu
    rcases hu with rfl | rfl | rfl <;> rfl
  · intro v' w' h1 h2 _
    refine h v' w' ?_ (grownBy_trans (World.grownBy_alloc _ _ _) h2)
    have e1 : (xs ++ [(y, z, u)]).length = xs.length + 1 := by simp
    unfold Trips
    rw [e1, flatT_append, List.map_append]
    exact h1

/-! triples that lie somewhere -/
/-- The slice v, wherever it lies, holds the triples xs. -/
def SrcT (w : World) (v : Value) (xs : List Tri) : Prop :=
  (v = .slice none 0 0 ∧ xs = []) ∨ ∃ (b off cap : Nat), v = .slice (some ⟨b, off, none⟩) xs.length cap ∧ xs.length ≤ cap ∧ cap ≤ maxLen ∧
    ∀ i, i < xs.length → w.cell? ⟨b, off + i * 3, none⟩ = some (.int .i64 (xs.getD i noT).1) ∧ w.cell? ⟨b, off + i * 3 + 1, none⟩ = some (.int .i64 (xs.getD i noT).2.1) ∧ w.cell? ⟨b, off + i * 3 + 2, none⟩ = some (.int .i64 (xs.getD i noT).2.2)

theorem SrcT.later {w w' : World} {v : Value} {xs : List Tri} (h : SrcT w v xs) (hb : Below w.heap.size w w') : SrcT w' v xs := by
  rcases h with h | ⟨b, off, cap, hv, hm, hm2, hc⟩
  · exact .inl h
  · exact .inr ⟨b, off, cap, hv, hm, hm2, fun i hi => ⟨(hb.cell (World.block_lt_of_cell? w _ (hc i hi).1)).trans (hc i hi).1, (hb.cell (World.block_lt_of_cell? w _ (hc i hi).2.1)).trans (hc i hi).2.1, (hb.cell (World.block_lt_of_cell? w _ (hc i hi).2.2)).trans (hc i hi).2.2⟩⟩

theorem SrcT.drewN {w : World} {v : Value} {xs : List Tri} (h : SrcT w v xs) (n : Nat) : SrcT (w.drewN n) v xs := h

theorem flatT_cells {w : World} {b off : Nat} {xs : List Tri} (hc : ∀ i, i < xs.length → w.cell? ⟨b, off + i * 3, none⟩ = some (.int .i64 (xs.getD i noT).1) ∧ w.cell? ⟨b, off + i * 3 + 1, none⟩ = some (.int .i64 (xs.getD i noT).2.1) ∧ w.cell? ⟨b, off + i * 3 + 2, none⟩ = some (.int .i64 (xs.getD i noT).2.2)) :
    ∀ j u, ((flatT xs).map (Value.int .i64))[j]? = some u → w.cell? ((⟨b, off, none⟩ : Addr).add j) = some u := by
  intro j u hu
  rw [List.getElem?_map] at hu
  have hj : j < (flatT xs).length := by
    rcases Nat.lt_or_ge j (flatT xs).length with h | h
    · exact h
    · rw [List.getElem?_eq_none h] at hu; cases hu
  rw [List.getElem?_eq_getElem hj] at hu
  simp only [Option.map_some, Option.some.injEq] at hu
  subst hu
  have hadd : (⟨b, off, none⟩ : Addr).add j = ⟨b, off + j, none⟩ := by unfold Addr.add; split <;> simp_all
  rw [hadd]
  have hl := flatT_length xs
  have h3 : j % 3 = 0 ∨ j % 3 = 1 ∨ j % 3 = 2 := by omega
  rcases h3 with e | e | e
  · have hk : j = (j / 3) * 3 := by omega
    have h0 := flatT_get0 xs (j / 3)
    rw [← hk, List.getD_eq_getElem?_getD, List.getElem?_eq_getElem hj] at h0
    have h1 := (hc (j / 3) (by omega)).1
    rw [show off + j / 3 * 3 = off + j by omega] at h1
    rw [h1]
    simp only [Option.getD_some] at h0
    rw [h0]
  · have hk : j = (j / 3) * 3 + 1 := by omega
    have h0 := flatT_get1 xs (j / 3)
    rw [← hk, List.getD_eq_getElem?_getD, List.getElem?_eq_getElem hj] at h0
    have h1 := (hc (j / 3) (by omega)).2.1
    rw [show off + j / 3 * 3 + 1 = off + j by omega] at h1
    rw [h1]
    simp only [Option.getD_some] at h0
    rw [h0]
  · have hk : j = (j / 3) * 3 + 2 := by omega
    have h0 := flatT_get2 xs (j / 3)
    rw [← hk, List.getD_eq_getElem?_getD, List.getElem?_eq_getElem hj] at h0
    have h1 := (hc (j / 3) (by omega)).2.2
    rw [show off + j / 3 * 3 + 2 = off + j by omega] at h1
    rw [h1]
    simp only [Option.getD_some] at h0
    rw [h0]

theorem run_append_trips {P : Program} {w : World} (t ty : TypeId) (B : Nat) (e : TypeId) (ht : P.underlying t = some (.slice e))
    (hi : (P.info? e).map (fun i => (i.zero, i.size, i.bytes)) = some (some (.agg #[.int .i64 0, .int .i64 0, .int .i64 0]), 3, 24)) (v x : Value) (xs ys : List Tri) (hI : Trips w B e v xs) (hx : SrcT w x ys)
    (hn : xs.length + ys.length ≤ 1000000000) (hB : B ≤ w.heap.size) :
    ∃ v' w', (Builtin.append_ #[t, t] ty #[v, x]).run P w = .ok v' w' ∧ Trips w' B e v' (xs ++ ys) ∧ w.grownBy w' v.ownBlock ∧ (v'.ownBlock = v.ownBlock ∨ v'.ownBlock = some w.heap.size) := by
  obtain ⟨i, hi, hz0, hz1, hz2⟩ := info_parts hi
  rcases hx with ⟨rfl, rfl⟩ | ⟨b, off, cap, rfl, hm, hm2, hc⟩
  · refine ⟨v, w, run_append_owned_none (P := P) (w := w) B t ty e i 3 ht hi v xs.length _ hI, by rw [List.append_nil]; exact hI, grownBy_refl _ _, .inl rfl⟩
  · obtain ⟨v', w', hr, h2, h3, _, h5⟩ := run_append_own_at (P := P) w B t ty e i (.agg #[.int .i64 0, .int .i64 0, .int .i64 0]) 3 24 ht hi hz0 hz1 hz2 rfl (by decide) v xs.length _ hI ⟨b, off, none⟩ ys.length cap ((flatT ys).map (Value.int .i64))
      (by simp [flatT_length]) (flatT_cells hc) (by intro u hu; obtain ⟨z, _, rfl⟩ := List.mem_map.1 hu; rfl) (by unfold maxLen; omega) (by omega) hB
    refine ⟨v', w', hr, ?_, h3, h5⟩
    unfold Trips
    rw [List.length_append, flatT_append, List.map_append]
    exact h2

/-- At the list of a region's operations. -/
theorem wpList_append_trips {P : Program} {w : World} {ops : Array Oper} {rest : List Oper} {o : Oper} {a : Act} {Q : Exit → Act → World → Prop} (hgd : o.guard = none) (s x : Operand) (t : TypeId)
    (ho : o.op = .call { callee := .builtin .append, args := #[s, x], argTypes := #[t, t] }) (B : Nat) (e : TypeId) (ht : P.underlying t = some (.slice e))
    (hi : (P.info? e).map (fun i => (i.zero, i.size, i.bytes)) = some (some (.agg #[.int .i64 0, .int .i64 0, .int .i64 0]), 3, 24)) (v u : Value) (xs ys : List Tri) (hs : a.eval s = v) (hu : a.eval x = u) (hI : Trips w B e v xs) (hx : SrcT w u ys)
    (hn : xs.length + ys.length ≤ 1000000000) (hB : B ≤ w.heap.size)
    (h : ∀ v' w', Trips w' B e v' (xs ++ ys) → w.grownBy w' v.ownBlock → (v'.ownBlock = v.ownBlock ∨ v'.ownBlock = some w.heap.size) → wpList P ops Q rest (a.put o.dst v') w') :
    wpList P ops Q (o :: rest) a w := by
  refine wpList_plain hgd fun K' hK => ?_
  obtain ⟨v', w', hr, h2, h3, h5⟩ := run_append_trips (P := P) (w := w) t o.type B e ht hi v u xs ys hI hx hn hB
  unfold Oper.wp execOp
  simp only [ho, resolve, invoke, builtin, Sem.run_bind, Sem.run_pure, Result.andThen_ok, List.map_toArray, List.map_cons, List.map_nil, hs, hu, hr]
  exact hK _ _ (h v' w' h2 h3 h5)

theorem wp_append_trips {P : Program} {w : World} {o : Oper} {a : Act} {K : Act → World → Prop} {Q : Exit → Act → World → Prop} (s x : Operand) (t : TypeId)
    (ho : o.op = .call { callee := .builtin .append, args := #[s, x], argTypes := #[t, t] }) (B : Nat) (e : TypeId) (ht : P.underlying t = some (.slice e))
    (hi : (P.info? e).map (fun i => (i.zero, i.size, i.bytes)) = some (some (.agg #[.int .i64 0, .int .i64 0, .int .i64 0]), 3, 24)) (v u : Value) (xs ys : List Tri) (hs : a.eval s = v) (hu : a.eval x = u) (hI : Trips w B e v xs) (hx : SrcT w u ys)
    (hn : xs.length + ys.length ≤ 1000000000) (hB : B ≤ w.heap.size)
    (h : ∀ v' w', Trips w' B e v' (xs ++ ys) → w.grownBy w' v.ownBlock → (v'.ownBlock = v.ownBlock ∨ v'.ownBlock = some w.heap.size) → K (a.put o.dst v') w') : o.wp P a w K Q := by
  obtain ⟨v', w', hr, h2, h3, h5⟩ := run_append_trips (P := P) (w := w) t o.type B e ht hi v u xs ys hI hx hn hB
  unfold Oper.wp execOp
  simp only [ho, resolve, invoke, builtin, Sem.run_bind, Sem.run_pure, Result.andThen_ok, List.map_toArray, List.map_cons, List.map_nil, hs, hu, hr]
  exact h v' w' h2 h3 h5

/-- A literal's own row. -/
theorem Trips.boxed (W : World) (B : Nat) (e : TypeId) (xs : List Tri) (hB : B ≤ W.heap.size) (hn : xs.length ≤ 1000000000) :
    Trips (W.alloc (.cells ((flatT xs).map (Value.int .i64)).toArray e)) B e (.slice (some ⟨W.heap.size, 0, none⟩) xs.length xs.length) xs := by
  refine ⟨by simp [flatT_length], .inr ⟨W.heap.size, xs.length, _, rfl, hB, heap_alloc_new W _, Nat.le_refl _, by unfold maxLen; omega, by simp [flatT_length], ?_⟩⟩
  rw [List.take_of_length_le (by simp [flatT_length])]

/-- What a row of the call's own holds can be read. -/
theorem Trips.src {w : World} {B : Nat} {e : TypeId} {v : Value} {xs : List Tri} (h : Trips w B e v xs) : SrcT w v xs := by
  have h0 := h
  obtain ⟨hl, ⟨hv, hn⟩ | ⟨g, cap, cur, hv, hB, hg, hn, hm, hs, ht⟩⟩ := h0
  · exact .inl ⟨hv, List.eq_nil_of_length_eq_zero hn⟩
  · subst hv
    exact .inr ⟨g, 0, cap, rfl, by omega, hm, fun i hi => ⟨by rw [Nat.zero_add]; exact h.cell0 i hi, by rw [Nat.zero_add]; exact h.cell1 i hi, by rw [Nat.zero_add]; exact h.cell2 i hi⟩⟩

theorem SrcT.form {w : World} {v : Value} {xs : List Tri} (h : SrcT w v xs) : ∃ a0 cap b off, v = .slice a0 xs.length cap ∧ (0 < xs.length → a0 = some ⟨b, off, none⟩) ∧ xs.length ≤ cap ∧ cap ≤ maxLen ∧
    ∀ i, i < xs.length → w.cell? ⟨b, off + i * 3, none⟩ = some (.int .i64 (xs.getD i noT).1) ∧ w.cell? ⟨b, off + i * 3 + 1, none⟩ = some (.int .i64 (xs.getD i noT).2.1) ∧ w.cell? ⟨b, off + i * 3 + 2, none⟩ = some (.int .i64 (xs.getD i noT).2.2) := by
  rcases h with ⟨rfl, rfl⟩ | ⟨b, off, cap, rfl, h1, h2, h3⟩
  · exact ⟨none, 0, 0, 0, rfl, by simp, by simp, by simp, by simp⟩
  · exact ⟨_, cap, b, off, rfl, fun _ => rfl, h1, h2, h3⟩

/-- 'list[i:j]' and 'list[i:j:k]' of a row that lies somewhere, behind the whole capacity the address stays. -/
theorem srcT_sub {w : World} {b off n cap c' i j : Nat} {xs : List Tri} (h : SrcT w (.slice (some ⟨b, off, none⟩) n cap) xs) (hij : i ≤ j) (hj : j ≤ xs.length) (hc : j - i ≤ c') (hc' : c' ≤ maxLen) :
    SrcT w (.slice (some ⟨b, off + i * 3, none⟩) (j - i) c') ((xs.take j).drop i) := by
  rcases h with ⟨h, _⟩ | ⟨b', off', c, hv, hm, hm2, hcl⟩
  · cases h
  · cases hv
    have hl : ((xs.take j).drop i).length = j - i := by simp; omega
    refine .inr ⟨b, off + i * 3, c', by rw [hl], by omega, hc', fun k hk => ?_⟩
    have h1 := hcl (i + k) (by omega)
    have h2 : ((xs.take j).drop i).getD k noT = xs.getD (i + k) noT := by rw [getD_drop, getD_take _ _ _ _ (by omega)]
    rw [h2, show off + i * 3 + k * 3 = off + (i + k) * 3 by omega, show off + (i + k) * 3 + 1 = off + (i + k) * 3 + 1 from rfl]
    exact h1

theorem srcT_none {w : World} {n c : Nat} {v : Value} (hv : v = .slice (some ⟨n, 0, none⟩) 0 c) (hc : c ≤ maxLen) : SrcT w v [] :=
  .inr ⟨n, 0, c, hv, Nat.zero_le _, hc, fun i hi => absurd hi (by simp)⟩

end Go.Proofs.Ytnldnjgnpdicnaa
