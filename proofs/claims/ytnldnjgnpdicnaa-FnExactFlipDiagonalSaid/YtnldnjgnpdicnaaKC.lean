/- slices.Concat of slices of chords. -/
import Derived.Test.YtnldnjgnpdicnaaBA
import Derived.Test.YtnldnjgnpdicnaaRows
import Derived.Lib.AppendZeros
namespace Go.Proofs.Ytnldnjgnpdicnaa
open Go.RowKit
set_option linter.unusedVariables false

theorem info_chordC : (Try.prog.info? 52).map (fun i => (i.zero, i.size, i.bytes)) = some (some (.agg #[.int .i64 0, .int .i64 0]), 2, 16) := by kernel_rfl

theorem zeroCells_size (z : Array Value) (n : Nat) : (Builtin.zeroCells z n).size = n * z.size := by simp [Builtin.zeroCells]

theorem pairs_grown (W : World) (B : Nat) (e : TypeId) (n c : Nat) (hB : B ≤ W.heap.size) (hnc : n ≤ c) (hc : c ≤ maxLen) :
    Pairs (W.alloc (.cells (Builtin.zeroCells #[.int .i64 0, .int .i64 0] n ++ Builtin.zeroCells #[.int .i64 0, .int .i64 0] (c - n)) e)) B e (.slice (some ⟨W.heap.size, 0, none⟩) 0 c) [] := by
  refine ⟨by simp [flatP], .inr ⟨W.heap.size, c, _, by simp, hB, heap_alloc_new W _, by simp, hc, ?_, by simp [flatP]⟩⟩
  rw [Array.size_append, zeroCells_size, zeroCells_size]
  simp
  omega

theorem wpList_append_zeros {P : Program} {w : World} {ops : Array Oper} {rest : List Oper} {o : Oper} {a : Act} {Q : Exit → Act → World → Prop} (hgd : o.guard = none) (s x : Operand) (t tn : TypeId)
    (ho : o.op = .call { callee := .builtin .append, args := #[s, x], argTypes := #[t, tn] }) (e : TypeId) (ht : P.underlying t = some (.slice e)) (htn : P.underlying tn = some (.int .i64))
    (hi : (P.info? e).map (fun i => (i.zero, i.size, i.bytes)) = some (some (.agg #[.int .i64 0, .int .i64 0]), 2, 16)) (n : Nat) (h0 : 0 < n) (hn : n ≤ 1000000) (hs : a.eval s = .slice none 0 0) (hx : a.eval x = .int .i64 n)
    (h : ∀ c, n ≤ c → c ≤ maxLen → wpList P ops Q rest (a.put o.dst (.slice (some ⟨w.heap.size, 0, none⟩) n c)) (w.drew.alloc (.cells (Builtin.zeroCells #[.int .i64 0, .int .i64 0] n ++ Builtin.zeroCells #[.int .i64 0, .int .i64 0] (c - n)) e))) :
    wpList P ops Q (o :: rest) a w := by
  refine wpList_plain hgd fun K' hK => ?_
  obtain ⟨i, hi, hz0, hz1, hz2⟩ := info_parts hi
  have hr := Go.Lib.run_append_nil_zeros (P := P) w t tn o.type e i (.agg #[.int .i64 0, .int .i64 0]) .i64 .i64 ht htn hi hz0 n h0 (by omega) (by omega) (by rw [hz2]; omega)
  unfold Oper.wp execOp
  simp only [ho, resolve, invoke, builtin, Sem.run_bind, Sem.run_pure, Result.andThen_ok, List.map_toArray, List.map_cons, List.map_nil, hs, hx, hr]
  exact hK _ _ (h _ (grownCap_ge w n 0 e) (grownCap_le_maxLen w n 0 e (by unfold maxLen; omega)))

/-- How many pairs the first k lists hold together. -/
def totP (xss : List (List (Int × Int))) (k : Nat) : Nat := ((xss.take k).flatten).length

theorem flat_take_snoc (xss : List (List (Int × Int))) (k : Nat) (h : k < xss.length) : (xss.take (k + 1)).flatten = (xss.take k).flatten ++ xss.getD k [] := by
  rw [List.take_succ_eq_append_getElem h, List.flatten_append, List.getD_eq_getElem?_getD, List.getElem?_eq_getElem h]
  simp

theorem totP_succ (xss : List (List (Int × Int))) (k : Nat) (h : k < xss.length) : totP xss (k + 1) = totP xss k + (xss.getD k []).length := by
  unfold totP
  rw [flat_take_snoc xss k h, List.length_append]

theorem totP_le (xss : List (List (Int × Int))) (k : Nat) : totP xss k ≤ xss.flatten.length := by
  unfold totP
  conv => rhs; rw [← List.take_append_drop k xss, List.flatten_append, List.length_append]
  omega

theorem SrcP.form {w : World} {v : Value} {xs : List (Int × Int)} (h : SrcP w v xs) : ∃ a0 cap, v = .slice a0 xs.length cap := by
  rcases h with ⟨h, rfl⟩ | ⟨b, off, cap, h, _⟩
  · exact ⟨none, 0, h⟩
  · exact ⟨_, cap, h⟩

theorem cells_of {W : World} {h : Nat} {cs : Array Value} {t : TypeId} {fr : Nat × Nat} (hh : W.heap[h]? = some (.cells cs t fr)) : ∀ i, i < cs.size → W.cell? ⟨h, i, none⟩ = some (cs.toList.getD i undef) := by
  intro i hi
  rw [cell_of_row _ h i _ _ _ hh, List.getD_eq_getElem?_getD]
  simp [hi]

end Go.Proofs.Ytnldnjgnpdicnaa
