/- Pairs that lie somewhere are appended to pairs of the call's own: the law, at an operation and at a step of a region. Nothing of the program. -/
import Derived.Test.YtlkehdjfmmghjabP5
import Derived.Deep.RegionHeld3
import Derived.Maps.AppendAt
import Derived.Laws.AppendOwnNone
namespace Go.Proofs.Ytlkehdjfmmghjab
open Go.RowKit

/-- The slice v, wherever it lies, holds the pairs xs. -/
def SrcP (w : World) (v : Value) (xs : List (Int × Int)) : Prop :=
  (v = .slice none 0 0 ∧ xs = []) ∨ ∃ (b off cap : Nat), v = .slice (some ⟨b, off, none⟩) xs.length cap ∧ xs.length ≤ maxLen ∧
    ∀ i, i < xs.length → w.cell? ⟨b, off + i * 2, none⟩ = some (.int .i64 (xs.getD i (0, 0)).1) ∧ w.cell? ⟨b, off + (i * 2 + 1), none⟩ = some (.int .i64 (xs.getD i (0, 0)).2)

theorem SrcP.later {w w' : World} {v : Value} {xs : List (Int × Int)} (h : SrcP w v xs) (hb : Below w.heap.size w w') : SrcP w' v xs := by
  rcases h with h | ⟨b, off, cap, hv, hm, hc⟩
  · exact .inl h
  · exact .inr ⟨b, off, cap, hv, hm, fun i hi => ⟨(hb.cell (World.block_lt_of_cell? w _ (hc i hi).1)).trans (hc i hi).1, (hb.cell (World.block_lt_of_cell? w _ (hc i hi).2)).trans (hc i hi).2⟩⟩

theorem flatP_cells {w : World} {b off : Nat} {xs : List (Int × Int)} (hc : ∀ i, i < xs.length → w.cell? ⟨b, off + i * 2, none⟩ = some (.int .i64 (xs.getD i (0, 0)).1) ∧ w.cell? ⟨b, off + (i * 2 + 1), none⟩ = some (.int .i64 (xs.getD i (0, 0)).2)) :
    ∀ j u, ((flatP xs).map (Value.int .i64))[j]? = some u → w.cell? ((⟨b, off, none⟩ : Addr).add j) = some u := by
  intro j u hu
  rw [List.getElem?_map] at hu
  have hj : j < (flatP xs).length := by
    rcases Nat.lt_or_ge j (flatP xs).length with h | h
    · exact h
    · rw [List.getElem?_eq_none h] at hu; cases hu
  rw [List.getElem?_eq_getElem hj] at hu
  simp only [Option.map_some, Option.some.injEq] at hu
  subst hu
  have hadd : (⟨b, off, none⟩ : Addr).add j = ⟨b, off + j, none⟩ := by unfold Addr.add; split <;> simp_all
  rw [hadd]
  have hl := flatP_length xs
  rcases Nat.mod_two_eq_zero_or_one j with e | e
  · have hk : j = (j / 2) * 2 := by omega
    have h0 := flatP_get0 xs (j / 2)
    rw [← hk, List.getD_eq_getElem?_getD, List.getElem?_eq_getElem hj] at h0
    have h1 := (hc (j / 2) (by omega)).1
    rw [← hk] at h1
    rw [h1]
    simp only [Option.getD_some] at h0
    rw [h0]
  · have hk : j = (j / 2) * 2 + 1 := by omega
    have h0 := flatP_get1 xs (j / 2)
    rw [← hk, List.getD_eq_getElem?_getD, List.getElem?_eq_getElem hj] at h0
    have h1 := (hc (j / 2) (by omega)).2
    rw [← hk] at h1
    rw [h1]
    simp only [Option.getD_some] at h0
    rw [h0]

theorem run_append_pairs {P : Program} {w : World} (t ty : TypeId) (B : Nat) (e : TypeId) (ht : P.underlying t = some (.slice e))
    (hi : (P.info? e).map (fun i => (i.zero, i.size, i.bytes)) = some (some (.agg #[.int .i64 0, .int .i64 0]), 2, 16)) (v x : Value) (xs ys : List (Int × Int)) (hI : Pairs w B e v xs) (hx : SrcP w x ys)
    (hn : xs.length + ys.length ≤ 1000000000) (hB : B ≤ w.heap.size) :
    ∃ v' w', (Builtin.append_ #[t, t] ty #[v, x]).run P w = .ok v' w' ∧ Pairs w' B e v' (xs ++ ys) ∧ w.grownBy w' v.ownBlock ∧ (v'.ownBlock = v.ownBlock ∨ v'.ownBlock = some w.heap.size) := by
  obtain ⟨i, hi, hz0, hz1, hz2⟩ := info_parts hi
  rcases hx with ⟨rfl, rfl⟩ | ⟨b, off, cap, rfl, hm, hc⟩
  · refine ⟨v, w, run_append_owned_none (P := P) (w := w) B t ty e i 2 ht hi v xs.length _ hI, by rw [List.append_nil]; exact hI, grownBy_refl _ _, .inl rfl⟩
  · obtain ⟨v', w', hr, h2, h3, _, h5⟩ := run_append_own_at (P := P) w B t ty e i (.agg #[.int .i64 0, .int .i64 0]) 2 16 ht hi hz0 hz1 hz2 rfl (by decide) v xs.length _ hI ⟨b, off, none⟩ ys.length cap ((flatP ys).map (Value.int .i64))
      (by simp [flatP_length]) (flatP_cells hc) (by intro u hu; obtain ⟨z, _, rfl⟩ := List.mem_map.1 hu; rfl) (by unfold maxLen; omega) (by omega) hB
    refine ⟨v', w', hr, ?_, h3, h5⟩
    unfold Pairs
    rw [List.length_append, flatP_append, List.map_append]
    exact h2

/-- At the operation. -/
theorem wp_append_pairs {P : Program} {w : World} {o : Oper} {a : Act} {K : Act → World → Prop} {Q : Exit → Act → World → Prop} (s x : Operand) (t : TypeId)
    (ho : o.op = .call { callee := .builtin .append, args := #[s, x], argTypes := #[t, t] }) (B : Nat) (e : TypeId) (ht : P.underlying t = some (.slice e))
    (hi : (P.info? e).map (fun i => (i.zero, i.size, i.bytes)) = some (some (.agg #[.int .i64 0, .int .i64 0]), 2, 16)) (v u : Value) (xs ys : List (Int × Int)) (hs : a.eval s = v) (hu : a.eval x = u) (hI : Pairs w B e v xs) (hx : SrcP w u ys)
    (hn : xs.length + ys.length ≤ 1000000000) (hB : B ≤ w.heap.size)
    (h : ∀ v' w', Pairs w' B e v' (xs ++ ys) → w.grownBy w' v.ownBlock → (v'.ownBlock = v.ownBlock ∨ v'.ownBlock = some w.heap.size) → K (a.put o.dst v') w') : o.wp P a w K Q := by
  obtain ⟨v', w', hr, h2, h3, h5⟩ := run_append_pairs (P := P) (w := w) t o.type B e ht hi v u xs ys hI hx hn hB
  unfold Oper.wp execOp
  simp only [ho, resolve, invoke, builtin, Sem.run_bind, Sem.run_pure, Result.andThen_ok, List.map_toArray, List.map_cons, List.map_nil, hs, hu, hr]
  exact h v' w' h2 h3 h5

/-- At the list of a region's operations. -/
theorem wpList_append_pairs {P : Program} {w : World} {ops : Array Oper} {rest : List Oper} {o : Oper} {a : Act} {Q : Exit → Act → World → Prop} (hgd : o.guard = none) (s x : Operand) (t : TypeId)
    (ho : o.op = .call { callee := .builtin .append, args := #[s, x], argTypes := #[t, t] }) (B : Nat) (e : TypeId) (ht : P.underlying t = some (.slice e))
    (hi : (P.info? e).map (fun i => (i.zero, i.size, i.bytes)) = some (some (.agg #[.int .i64 0, .int .i64 0]), 2, 16)) (v u : Value) (xs ys : List (Int × Int)) (hs : a.eval s = v) (hu : a.eval x = u) (hI : Pairs w B e v xs) (hx : SrcP w u ys)
    (hn : xs.length + ys.length ≤ 1000000000) (hB : B ≤ w.heap.size)
    (h : ∀ v' w', Pairs w' B e v' (xs ++ ys) → w.grownBy w' v.ownBlock → (v'.ownBlock = v.ownBlock ∨ v'.ownBlock = some w.heap.size) → wpList P ops Q rest (a.put o.dst v') w') :
    wpList P ops Q (o :: rest) a w := by
  refine wpList_plain hgd fun K' hK => ?_
  obtain ⟨v', w', hr, h2, h3, h5⟩ := run_append_pairs (P := P) (w := w) t o.type B e ht hi v u xs ys hI hx hn hB
  unfold Oper.wp execOp
  simp only [ho, resolve, invoke, builtin, Sem.run_bind, Sem.run_pure, Result.andThen_ok, List.map_toArray, List.map_cons, List.map_nil, hs, hu, hr]
  exact hK _ _ (h v' w' h2 h3 h5)

/-- A literal's own row. -/
theorem Pairs.boxed (W : World) (B : Nat) (e : TypeId) (xs : List (Int × Int)) (hB : B ≤ W.heap.size) (hn : xs.length ≤ 1000000000) :
    Pairs (W.alloc (.cells ((flatP xs).map (Value.int .i64)).toArray e)) B e (.slice (some ⟨W.heap.size, 0, none⟩) xs.length xs.length) xs := by
  refine ⟨by simp [flatP_length], .inr ⟨W.heap.size, xs.length, _, rfl, hB, heap_alloc_new W _, Nat.le_refl _, by unfold maxLen; omega, by simp [flatP_length], ?_⟩⟩
  rw [List.take_of_length_le (by simp [flatP_length])]

/-- What a row of the call's own holds can be read. -/
theorem Pairs.src {w : World} {B : Nat} {e : TypeId} {v : Value} {xs : List (Int × Int)} (h : Pairs w B e v xs) : SrcP w v xs := by
  have h0 := h
  obtain ⟨hl, ⟨hv, hn⟩ | ⟨g, cap, cur, hv, hB, hg, hn, hm, hs, ht⟩⟩ := h0
  · exact .inl ⟨hv, List.eq_nil_of_length_eq_zero hn⟩
  · subst hv
    exact .inr ⟨g, 0, cap, rfl, by omega, fun i hi => ⟨by rw [Nat.zero_add]; exact h.cell0 i hi, by rw [Nat.zero_add]; exact h.cell1 i hi⟩⟩

theorem getD_take {α : Type} (xs : List α) (z : α) (k i : Nat) (h : i < k) : (xs.take k).getD i z = xs.getD i z := by
  rw [List.getD_eq_getElem?_getD, List.getD_eq_getElem?_getD, List.getElem?_take, if_pos h]

theorem getD_drop {α : Type} (xs : List α) (z : α) (k i : Nat) : (xs.drop k).getD i z = xs.getD (k + i) z := by
  rw [List.getD_eq_getElem?_getD, List.getD_eq_getElem?_getD, List.getElem?_drop]

/-- 'list[:k]' and 'list[k:]' of a row that lies at the head of its block. -/
theorem src_take {w : World} {g n cap k : Nat} {xs : List (Int × Int)} (h : SrcP w (.slice (some ⟨g, 0, none⟩) n cap) xs) (hk : k ≤ xs.length) : SrcP w (.slice (some ⟨g, 0, none⟩) k cap) (xs.take k) := by
  rcases h with ⟨h, _⟩ | ⟨b, off, c, hv, hm, hc⟩
  · cases h
  · cases hv
    have hl : (xs.take k).length = k := by simp; omega
    refine .inr ⟨g, 0, cap, by rw [hl], by omega, fun i hi => ?_⟩
    rw [getD_take _ _ _ _ (by omega)]
    exact hc i (by omega)

theorem src_drop {w : World} {g n cap c' k : Nat} {xs : List (Int × Int)} (h : SrcP w (.slice (some ⟨g, 0, none⟩) n cap) xs) (hk : k ≤ xs.length) : SrcP w (.slice (some ⟨g, k * 2, none⟩) (xs.length - k) c') (xs.drop k) := by
  rcases h with ⟨h, _⟩ | ⟨b, off, c, hv, hm, hc⟩
  · cases h
  · cases hv
    refine .inr ⟨g, k * 2, c', by simp, by simp; omega, fun i hi => ?_⟩
    rw [List.length_drop] at hi
    have := hc (k + i) (by omega)
    rw [getD_drop]
    rw [show k * 2 + i * 2 = 0 + (k + i) * 2 by omega, show k * 2 + (i * 2 + 1) = 0 + ((k + i) * 2 + 1) by omega]
    exact this

/-- The same as the walk writes it: behind the whole capacity the address stays. -/
theorem src_drop_if {w : World} {g n cap c' k : Nat} {xs : List (Int × Int)} (h : SrcP w (.slice (some ⟨g, 0, none⟩) n cap) xs) (hk : k ≤ xs.length) (hc : xs.length ≤ cap) :
    SrcP w (.slice (if cap = k then some ⟨g, 0, none⟩ else some ⟨g, k * 2, none⟩) (xs.length - k) c') (xs.drop k) := by
  by_cases e : cap = k
  · rw [if_pos e]
    have hl : (xs.drop k).length = 0 := by simp; omega
    exact .inr ⟨g, 0, c', by rw [hl, show xs.length - k = 0 by omega], by omega, fun i hi => by omega⟩
  · rw [if_neg e]
    exact src_drop h hk

end Go.Proofs.Ytlkehdjfmmghjab
