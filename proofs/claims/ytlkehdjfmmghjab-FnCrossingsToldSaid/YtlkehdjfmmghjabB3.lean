/- What a call made lies between two sizes of the heap: it stays while nothing there changes. Nothing of the program. -/
import Derived.Test.YtlkehdjfmmghjabB2
namespace Go.Proofs.Ytlkehdjfmmghjab
open Go.RowKit

/-- From w to w' only the blocks B, .. T - 1 of w have changed, and new ones may have come. -/
structure Only (B T : Nat) (w w' : World) : Prop where
  os : w'.os = w.os
  tape : w'.tape = w.tape
  output : w'.output = w.output
  size : w.heap.size ≤ w'.heap.size
  block : ∀ k, k < w.heap.size → ¬ (B ≤ k ∧ k < T) → w'.heap[k]? = w.heap[k]?

/-- The blocks B, .. T - 1 are the same in both worlds. -/
def Same (B T : Nat) (w w' : World) : Prop := ∀ k, B ≤ k → k < T → w'.heap[k]? = w.heap[k]?

theorem Same.refl (B T : Nat) (w : World) : Same B T w w := fun _ _ _ => rfl

theorem Same.trans {B T : Nat} {w w1 w2 : World} (h : Same B T w w1) (g : Same B T w1 w2) : Same B T w w2 := fun k a b => (g k a b).trans (h k a b)

theorem belowSame {B T : Nat} {w w' : World} (h : Below w.heap.size w w') (hT : T ≤ w.heap.size) : Same B T w w' := fun k _ b => h.block k (by omega)

theorem Only.same_in {B T B' T' : Nat} {w w' : World} (h : Only B T w w') (hT : T' ≤ w.heap.size) (hd : T' ≤ B ∨ T ≤ B') : Same B' T' w w' := fun k a b => h.block k (by omega) (by omega)

theorem Only.below {B T C : Nat} {w w' : World} (h : Only B T w w') (hC : C ≤ B) (hw : C ≤ w.heap.size) : Below C w w' :=
  ⟨h.os, h.tape, h.output, h.size, fun k hk => h.block k (by omega) (by omega)⟩

theorem Only.of_grown {w w' : World} {v : Value} {B T : Nat} (h : w.grownBy w' v.ownBlock) (hv : ∀ k, v.ownBlock = some k → B ≤ k ∧ k < T) : Only B T w w' :=
  ⟨h.os, h.tape, h.output, h.size, fun k hk hn => h.block k hk fun e => hn (hv k e.symm)⟩

theorem Only.trans {B T : Nat} {w w1 w2 : World} (h : Only B T w w1) (g : Only B T w1 w2) : Only B T w w2 :=
  ⟨g.os.trans h.os, g.tape.trans h.tape, g.output.trans h.output, Nat.le_trans h.size g.size, fun k hk hn => (g.block k (Nat.lt_of_lt_of_le hk h.size) hn).trans (h.block k hk hn)⟩

theorem Only.refl (B T : Nat) (w : World) : Only B T w w := ⟨rfl, rfl, rfl, Nat.le_refl _, fun _ _ _ => rfl⟩

theorem Only.wider {B T B' T' : Nat} {w w' : World} (h : Only B T w w') (hB : B' ≤ B) (hT : T ≤ T') : Only B' T' w w' :=
  ⟨h.os, h.tape, h.output, h.size, fun k hk hn => h.block k hk (by omega)⟩

theorem Only.drewN {B T : Nat} {w w' : World} (h : Only B T w w') (n : Nat) : Only B T w (w'.drewN n) := ⟨h.os, h.tape, h.output, h.size, h.block⟩

theorem Only.cell {B T : Nat} {w w' : World} (h : Only B T w w') {b o : Nat} {x : Value} (hd : b < B ∨ T ≤ b) (hc : w.cell? ⟨b, o, none⟩ = some x) : w'.cell? ⟨b, o, none⟩ = some x :=
  (World.cell?_of_block (h.block b (World.block_lt_of_cell? w _ hc) (by omega))).trans hc

theorem cellB {w w' : World} (h : Below w.heap.size w w') {b o : Nat} {x : Value} (hc : w.cell? ⟨b, o, none⟩ = some x) : w'.cell? ⟨b, o, none⟩ = some x :=
  (h.cell (p := ⟨b, o, none⟩) (World.block_lt_of_cell? w _ hc)).trans hc

/-- The integers xs in a slice whose block is one of B, .. T - 1. -/
def IntsIn (e : TypeId) (w : World) (B T : Nat) (v : Value) (xs : List Int) : Prop := Ints w B e v xs ∧ ∀ k, v.ownBlock = some k → k < T

theorem IntsIn.keep {e : TypeId} {w w' : World} {B T : Nat} {v : Value} {xs : List Int} (h : IntsIn e w B T v xs) (hs : Same B T w w') : IntsIn e w' B T v xs := by
  refine ⟨⟨h.1.1, ?_⟩, h.2⟩
  rcases h.1.2 with h1 | ⟨g, cap, cur, hv, hB, hg, hn, hm, hz, ht⟩
  · exact .inl h1
  · refine .inr ⟨g, cap, cur, hv, hB, ?_, hn, hm, hz, ht⟩
    rw [hs g hB (h.2 g (by rw [hv]; rfl)), hg]

theorem IntsIn.own {e : TypeId} {w : World} {B T : Nat} {v : Value} {xs : List Int} (h : IntsIn e w B T v xs) : ∀ k, v.ownBlock = some k → B ≤ k ∧ k < T :=
  fun k hk => ⟨(h.1.own k hk).1, h.2 k hk⟩

theorem Ints.inn {e : TypeId} {w : World} {B : Nat} {v : Value} {xs : List Int} (h : Ints w B e v xs) : IntsIn e w B w.heap.size v xs := ⟨h, fun k hk => (h.own k hk).2⟩

theorem IntsIn.nil (e : TypeId) (w : World) (B T : Nat) : IntsIn e w B T (.slice none 0 0) [] := ⟨World.ownsRow_nil _ _ _ _, fun k hk => by simp [Value.ownBlock] at hk⟩

/-- A call returns x, in memory of its own, and the bool b. -/
def Gives {α : Type} (K : World → Nat → Nat → Value → α → Prop) (w : World) (x : α) (b : Bool) (e : Ending) (w' : World) : Prop :=
  ∃ v, e = .returned (.tuple #[v, .bool b]) ∧ K w' w.heap.size w'.heap.size v x ∧ Below w.heap.size w w'

end Go.Proofs.Ytlkehdjfmmghjab
