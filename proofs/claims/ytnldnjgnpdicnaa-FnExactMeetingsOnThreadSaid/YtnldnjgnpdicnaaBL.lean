/- Integers appended, and where they lie then: two lists that are appended to by turns. Nothing of the program. -/
import Derived.Test.YtnldnjgnpdicnaaBA
import Derived.Deep.AppendLies
namespace Go.Proofs.Ytnldnjgnpdicnaa
open Go.RowKit

/-- 'append(out, y)' onto integers of the call's own: where they lie then. -/
theorem wpList_append_int_lies {P : Program} {wr : World} {ops : Array Oper} {rest : List Oper} {o : Oper} {a : Act} {Q : Exit → Act → World → Prop} (hgd : o.guard = none) (s x : Operand) (t : TypeId)
    (ho : o.op = .call { callee := .builtin .append, args := #[s, x], argTypes := #[t, t] }) (base : Nat) (e : TypeId) (ht : P.underlying t = some (.slice e))
    (hi : (P.info? e).map (fun i => (i.zero, i.size, i.bytes)) = some (some (.int .i64 0), 1, 8)) (v : Value) (xs : List Int) (hs : a.eval s = v) (hI : Ints wr base e v xs) (y : Int) (z : Nat) (hz : z = wr.heap.size)
    (hx : a.eval x = .slice (some ⟨z, 0, none⟩) 1 1) (hn : xs.length < 1000000000) (hbase : base ≤ wr.heap.size)
    (h : ∀ g cap w', Ints w' base e (.slice (some ⟨g, 0, none⟩) (xs.length + 1) cap) (xs ++ [y]) → wr.grownBy w' v.ownBlock → (v.ownBlock = some g ∨ g = wr.heap.size + 1) → wpList P ops Q rest (a.put o.dst (.slice (some ⟨g, 0, none⟩) (xs.length + 1) cap)) w') :
    wpList P ops Q (o :: rest) a (wr.alloc (.cells #[.int .i64 y] e)) := by
  subst hz
  obtain ⟨i, hi, hz0, hz1, hz2⟩ := info_parts hi
  refine wpList_append_lies _ hgd s x t ho base e i (.int .i64 0) 1 8 ht hi hz0 hz1 hz2 rfl (by decide) v xs.length _ hs (World.ownsRow.alloc hI _) ⟨wr.heap.size, 0, none⟩ 1 1 [.int .i64 y] hx rfl ?_ ?_ (by decide) (by unfold maxLen; omega) (by omega) (by simp; omega) _ rfl ?_
  · exact cell_one_new _ _ _
  · intro u hu
    simp at hu
    subst hu
    rfl
  · intro g cap w' h1 h2 h3 _
    refine h g cap w' ?_ (grownBy_trans (World.grownBy_alloc _ _ _) h2) (by simpa using h3)
    have e1 : (xs ++ [y]).length = xs.length + 1 := by simp
    unfold Ints
    rw [e1, List.map_append]
    exact h1

theorem map_range_succ (f : Nat → Int) (j : Nat) : (List.range j).map f ++ [f j] = (List.range (j + 1)).map f := by simp [List.range_succ]

theorem Ints.opened {w : World} {B : Nat} {e : TypeId} {v : Value} {xs : List Int} (h : Ints w B e v xs) : ∃ a0 cap, v = .slice a0 xs.length cap := by
  obtain ⟨a0, cap, g, hv, _⟩ := h.view
  exact ⟨a0, cap, hv⟩

/-- What was appended to one list stays apart from another one. -/
theorem apart {w w' : World} {B g : Nat} {e : TypeId} {u v : Value} {ys : List Int} (hJ : Ints w B e v ys) (hA : ∀ q, u.ownBlock = some q → v.ownBlock ≠ some q) (hg : w.grownBy w' u.ownBlock) (hl : u.ownBlock = some g ∨ g = w.heap.size + 1) : Ints w' B e v ys ∧ v.ownBlock ≠ some g := by
  refine ⟨hJ.kept hg ?_, fun hv => ?_⟩
  · cases hv : v.ownBlock with
    | none => exact .inl rfl
    | some q => exact .inr fun e => hA q e.symm hv
  · rcases hl with hl | hl
    · exact hA g hl hv
    · have := (hJ.own g hv).2
      omega

end Go.Proofs.Ytnldnjgnpdicnaa
