/- What appends many integers. Nothing of the program. -/
import Derived.Test.YtnldnjgnpdicnaaBA
import Derived.Laws.AppendOwnNone
namespace Go.Proofs.Ytnldnjgnpdicnaa
open Go.RowKit

/-- 'append(out, src...)': integers of the call's own onto others. -/
theorem wpList_append_ints {P : Program} {wr : World} {ops : Array Oper} {rest : List Oper} {o : Oper} {a : Act} {Q : Exit → Act → World → Prop} (hgd : o.guard = none) (s x : Operand) (t : TypeId)
    (ho : o.op = .call { callee := .builtin .append, args := #[s, x], argTypes := #[t, t] }) (base : Nat) (e : TypeId) (ht : P.underlying t = some (.slice e))
    (hi : (P.info? e).map (fun i => (i.zero, i.size, i.bytes)) = some (some (.int .i64 0), 1, 8)) (v : Value) (xs : List Int) (hs : a.eval s = v) (hI : Ints wr base e v xs) (g n cap : Nat) (ys : List Int)
    (hx : a.eval x = .slice (some ⟨g, 0, none⟩) n cap) (hl : ys.length = n) (hc : ∀ i, i < n → wr.cell? ⟨g, i, none⟩ = some (.int .i64 (ys.getD i 0))) (hn : xs.length + n ≤ 1000000000) (hbase : base ≤ wr.heap.size)
    (h : ∀ v' w', Ints w' base e v' (xs ++ ys) → wr.grownBy w' v.ownBlock → wpList P ops Q rest (a.put o.dst v') w') :
    wpList P ops Q (o :: rest) a wr := by
  obtain ⟨i, hi, hz0, hz1, hz2⟩ := info_parts hi
  refine wpList_append_own _ hgd s x t ho base e i (.int .i64 0) 1 8 ht hi hz0 hz1 hz2 rfl (by decide) v xs.length _ hs hI ⟨g, 0, none⟩ n cap (ys.map (Value.int .i64)) hx (by simp [hl]) ?_ ?_ (by unfold maxLen; omega) (by omega) hbase ?_
  · intro j u hj
    have hadd : (⟨g, 0, none⟩ : Addr).add j = ⟨g, j, none⟩ := by unfold Addr.add; split <;> simp_all
    rw [List.getElem?_map] at hj
    have hjl : j < ys.length := by
      rcases Nat.lt_or_ge j ys.length with h | h
      · exact h
      · rw [List.getElem?_eq_none h] at hj; cases hj
    rw [List.getElem?_eq_getElem hjl] at hj
    cases hj
    rw [hadd, hc j (by omega)]
    simp [List.getD, List.getElem?_eq_getElem hjl]
  · intro u hu
    obtain ⟨z, _, rfl⟩ := List.mem_map.1 hu
    rfl
  · intro v' w' h1 h2 _
    refine h v' w' ?_ h2
    unfold Ints
    rw [List.length_append, List.map_append, hl]
    exact h1

/-- 'append(out, src...)': both the call's own, the second one nil perhaps. -/
theorem wpList_append_own_ints {P : Program} {wr : World} {ops : Array Oper} {rest : List Oper} {o : Oper} {a : Act} {Q : Exit → Act → World → Prop} (hgd : o.guard = none) (s x : Operand) (t : TypeId)
    (ho : o.op = .call { callee := .builtin .append, args := #[s, x], argTypes := #[t, t] }) (base : Nat) (e : TypeId) (ht : P.underlying t = some (.slice e))
    (hi : (P.info? e).map (fun i => (i.zero, i.size, i.bytes)) = some (some (.int .i64 0), 1, 8)) (v : Value) (xs : List Int) (hs : a.eval s = v) (hI : Ints wr base e v xs) (B : Nat) (e' : TypeId) (u : Value) (ys : List Int)
    (hx : a.eval x = u) (hJ : Ints wr B e' u ys) (hn : xs.length + ys.length ≤ 1000000000) (hbase : base ≤ wr.heap.size)
    (h : ∀ v' w', Ints w' base e v' (xs ++ ys) → wr.grownBy w' v.ownBlock → wpList P ops Q rest (a.put o.dst v') w') :
    wpList P ops Q (o :: rest) a wr := by
  by_cases hu : u = .slice none 0 0
  · have hys : ys = [] := by
      obtain ⟨_, h1 | ⟨g, c, cur, hv, _⟩⟩ := hJ
      · exact List.eq_nil_of_length_eq_zero h1.2
      · rw [hu] at hv; cases hv
    obtain ⟨i, hi, _, _, _⟩ := info_parts hi
    subst hys
    refine wpList_append_own_none hgd s x t ho base e i 1 ht hi v xs.length _ hs hI (hx.trans hu) ?_
    exact h v wr (by rw [List.append_nil]; exact hI) (grownBy_refl _ _)
  · obtain ⟨hl, h1 | ⟨g, c, cur, hv, hB, hg, hn', hm, hsz, htk⟩⟩ := id hJ
    · exact absurd h1.1 hu
    · subst hv
      exact wpList_append_ints hgd s x t ho base e ht hi v xs hs hI g ys.length c ys hx rfl (fun i hi => hJ.cellAt i hi) hn hbase h

end Go.Proofs.Ytnldnjgnpdicnaa
