/- Slices of slices of integers that a call made itself: made, filled, appended to. Nothing of the program. -/
import Derived.Test.YtlkehdjfmmghjabB5
namespace Go.Proofs.Ytlkehdjfmmghjab
open Go.RowKit

/-- The first j of n places are filled by f, the others hold z. -/
def fillG {α : Type} (f : Nat → α) (z : α) (n j : Nat) : List α := (List.range j).map f ++ List.replicate (n - j) z

theorem fillG_zero {α : Type} (f : Nat → α) (z : α) (n : Nat) : fillG f z n 0 = List.replicate n z := by simp [fillG]

theorem fillG_all {α : Type} (f : Nat → α) (z : α) (n : Nat) : fillG f z n n = (List.range n).map f := by simp [fillG]

theorem fillG_length {α : Type} (f : Nat → α) (z : α) (n j : Nat) (h : j ≤ n) : (fillG f z n j).length = n := by simp [fillG]; omega

theorem fillG_set {α : Type} (f : Nat → α) (z : α) (n j : Nat) (h : j < n) : (fillG f z n j).set j (f j) = fillG f z n (j + 1) := by
  unfold fillG
  rw [List.set_append_right _ _ (by simp)]
  have : n - j = (n - (j + 1)) + 1 := by omega
  rw [this, List.replicate_succ]
  simp [List.range_succ]

/-- n new nil slices. -/
def nilRows (n : Nat) : Array Value := madeCells #[Value.slice none 0 0] n

theorem nilRows_list (n : Nat) : (nilRows n).toList = List.replicate n (Value.slice none 0 0) := by
  apply List.ext_getElem?
  intro i
  by_cases h : i < n
  · simp [nilRows, madeCells, h, Nat.mod_one]
  · simp [nilRows, madeCells, h]

theorem make_rows {P : Program} {t e : TypeId} (ht : P.underlying t = some (.slice e)) (hi : (P.info? e).map (fun i => (i.zero, i.size, i.bytes)) = some (some (.slice none 0 0), 1, 24)) (n : Nat) (hn : n ≤ 1000000000) :
    ∀ W : World, (Instr.makeSlice t (.int .i64 (n : Int)) (.int .i64 (n : Int))).run P W = .ok (.slice (some ⟨W.heap.size, 0, none⟩) n n) (W.alloc (.cells (nilRows n) e)) := by
  intro W
  obtain ⟨i, hi, hz0, hz1, hz2⟩ := info_parts hi
  have := run_make (P := P) W t e i (.slice none 0 0) ht hi hz0 .i64 .i64 (n : Int) (n : Int) (by omega) (Int.le_refl _) (by rw [hz2]; omega) (by omega)
  rw [this, hz1]
  simp [nilRows, Value.cells]

theorem getD_replicate {α : Type} (n i : Nat) (z : α) : (List.replicate n z).getD i z = z := by
  rw [List.getD_eq_getElem?_getD, List.getElem?_replicate]
  split <;> rfl

theorem RowsAt.made (W : World) (B : Nat) (eo ei : TypeId) (n : Nat) (hB : B ≤ W.heap.size) (hn : n ≤ 1000000000) :
    RowsAt eo ei (W.alloc (.cells (nilRows n) eo)) B (W.heap.size + 1) (.slice (some ⟨W.heap.size, 0, none⟩) n n) (List.replicate n (.slice none 0 0)) (List.replicate n []) := by
  refine ⟨by simp, ⟨by simp, .inr ⟨W.heap.size, n, nilRows n, by simp, hB, heap_alloc_new W _, by simp, by unfold maxLen; omega, by simp [nilRows, size_madeCells], ?_⟩⟩, ?_, ?_, ?_⟩
  · rw [nilRows_list]; simp
  · intro k hk; simp [Value.ownBlock] at hk; omega
  · intro i _; rw [getD_replicate, getD_replicate]; exact IntsIn.nil _ _ _ _
  · intro i j _ _ _ k hk; rw [getD_replicate] at hk; simp [Value.ownBlock] at hk

theorem IntsIn.widen {e : TypeId} {w : World} {B T B' T' : Nat} {v : Value} {xs : List Int} (h : IntsIn e w B T v xs) (hB : B' ≤ B) (hT : T ≤ T') : IntsIn e w B' T' v xs :=
  ⟨h.1.mono hB, fun k hk => Nat.lt_of_lt_of_le (h.2 k hk) hT⟩

theorem getD_set_self {α : Type} {l : List α} {k : Nat} {x z : α} (h : k < l.length) : (l.set k x).getD k z = x := by
  rw [List.getD_eq_getElem?_getD, List.getElem?_set_self h]; rfl

theorem getD_set_ne {α : Type} {l : List α} {k i : Nat} {x z : α} (h : i ≠ k) : (l.set k x).getD i z = l.getD i z := by
  rw [List.getD_eq_getElem?_getD, List.getElem?_set_ne (fun e => h e.symm), ← List.getD_eq_getElem?_getD]

/-- A new row is laid into one of the places. -/
theorem RowsAt.put {eo ei : TypeId} {w : World} {B T T' g n cap : Nat} {vs : List Value} {xss : List (List Int)} (h : RowsAt eo ei w B T (.slice (some ⟨g, 0, none⟩) n cap) vs xss) (hne : eo ≠ ei) {k : Nat} (hk : k < xss.length) {u : Value} {ys : List Int}
    (hu : IntsIn ei w T T' u ys) (hBT : B ≤ T) (hT : T ≤ T') : RowsAt eo ei (w.setCell ⟨g, k, none⟩ u) B T' (.slice (some ⟨g, 0, none⟩) n cap) (vs.set k u) (xss.set k ys) := by
  have hlen := h.len
  have hn : n = vs.length := by
    rcases h.outer.2 with ⟨hv, _⟩ | ⟨_, _, _, hv, _⟩
    · cases hv
    · cases hv; rfl
  subst hn
  have hg : g < T := h.top g rfl
  obtain ⟨s1, s2⟩ := World.ownsRow.stored h.outer k u
  refine ⟨by simpa using hlen, by rw [List.length_set]; exact s1, fun b hb => Nat.lt_of_lt_of_le (h.top b hb) hT, fun i hi => ?_, fun i j hi hj hij b => ?_⟩
  · rw [List.length_set] at hi
    by_cases hik : i = k
    · subst hik
      rw [getD_set_self (by omega), getD_set_self hi]
      refine IntsIn.widen ⟨World.ownsRow.kept hu.1 s2 ?_, hu.2⟩ hBT (Nat.le_refl _)
      cases hv : u.ownBlock with
      | none => exact .inl rfl
      | some b => exact .inr (fun e => by have := (hu.own b hv).1; simp at e; omega)
    · rw [getD_set_ne hik, getD_set_ne hik]
      have hr := h.rows i hi
      refine IntsIn.widen ⟨World.ownsRow.kept hr.1 s2 ?_, hr.2⟩ (Nat.le_refl _) hT
      cases hv : (vs.getD i (.slice none 0 0)).ownBlock with
      | none => exact .inl rfl
      | some b => exact .inr (fun e => ownsRow_apart h.outer hr.1 hne rfl (by rw [hv, e]))
  · rw [List.length_set] at hi hj
    by_cases hik : i = k
    · subst hik
      rw [getD_set_self (by omega), getD_set_ne (fun e => hij e.symm)]
      intro hb hb'
      have h1 := (hu.own b hb).1
      have h2 := (h.rows j hj).2 b hb'
      omega
    · rw [getD_set_ne hik]
      by_cases hjk : j = k
      · subst hjk
        rw [getD_set_self (by omega)]
        intro hb hb'
        have h1 := (hu.own b hb').1
        have h2 := (h.rows i hi).2 b hb
        omega
      · rw [getD_set_ne hjk]
        exact h.apart i j hi hj hij b

/-- 'append(out, u)', u one cell, onto a row of the call's own. -/
theorem wpList_append_val {P : Program} {wr : World} {ops : Array Oper} {rest : List Oper} {o : Oper} {a : Act} {Q : Exit → Act → World → Prop} (hgd : o.guard = none) (s x : Operand) (t : TypeId)
    (ho : o.op = .call { callee := .builtin .append, args := #[s, x], argTypes := #[t, t] }) (base : Nat) (e : TypeId) (z : Value) (bytes : Nat) (ht : P.underlying t = some (.slice e))
    (hi : (P.info? e).map (fun i => (i.zero, i.size, i.bytes)) = some (some z, 1, bytes)) (hz : z.cells.size = 1) (hby : bytes ≤ 64) (v : Value) (vs : List Value) (hs : a.eval s = v) (hI : wr.ownsRow base e 1 v vs.length vs) (u : Value) (hu : u.oneCell' = true)
    (hx : a.eval x = .slice (some ⟨wr.heap.size, 0, none⟩) 1 1) (hn : vs.length < 1000000000) (hbase : base ≤ wr.heap.size)
    (h : ∀ v' w', w'.ownsRow base e 1 v' (vs ++ [u]).length (vs ++ [u]) → wr.grownBy w' v.ownBlock → wpList P ops Q rest (a.put o.dst v') w') :
    wpList P ops Q (o :: rest) a (wr.alloc (.cells #[u] e)) := by
  obtain ⟨i, hi, hz0, hz1, hz2⟩ := info_parts hi
  have hb : (vs.length + 1) * bytes ≤ (1000000000 + 1) * 64 := Nat.mul_le_mul (by omega) hby
  refine wpList_append_own _ hgd s x t ho base e i z 1 bytes ht hi hz0 hz1 hz2 hz (by decide) v vs.length _ hs (World.ownsRow.alloc hI _) ⟨wr.heap.size, 0, none⟩ 1 1 [u] hx rfl (cell_one_new _ _ _) ?_ (by unfold maxLen; omega) (by omega) (by simp; omega) ?_
  · intro y hy
    simp at hy
    subst hy
    exact hu
  · intro v' w' h1 h2 _
    refine h v' w' ?_ (grownBy_trans (World.grownBy_alloc _ _ _) h2)
    rw [List.length_append]
    exact h1

theorem getD_append_left {α : Type} {l m : List α} {i : Nat} {z : α} (h : i < l.length) : (l ++ m).getD i z = l.getD i z := by
  rw [List.getD_eq_getElem?_getD, List.getElem?_append_left h, ← List.getD_eq_getElem?_getD]

theorem getD_append_last {α : Type} {l : List α} {x z : α} : (l ++ [x]).getD l.length z = x := by
  rw [List.getD_eq_getElem?_getD, List.getElem?_append_right (Nat.le_refl _)]; simp

/-- A new row is appended. -/
theorem RowsAt.more {eo ei : TypeId} {w w' : World} {B T T' : Nat} {v v' : Value} {vs : List Value} {xss : List (List Int)} (h : RowsAt eo ei w B T v vs xss) (hne : eo ≠ ei) {u : Value} {ys : List Int} (hu : IntsIn ei w T T' u ys)
    (hBT : B ≤ T) (hTT : T ≤ T') (hT' : T' ≤ w'.heap.size) (ho : w'.ownsRow B eo 1 v' (vs ++ [u]).length (vs ++ [u])) (hg : w.grownBy w' v.ownBlock) :
    RowsAt eo ei w' B w'.heap.size v' (vs ++ [u]) (xss ++ [ys]) := by
  have hlen := h.len
  have kept : ∀ (x : Value) (xs : List Int) (B1 T1 : Nat), IntsIn ei w B1 T1 x xs → T1 ≤ w'.heap.size → B ≤ B1 → IntsIn ei w' B w'.heap.size x xs := fun x xs B1 T1 hx hT1 hB1 => by
    refine IntsIn.widen ⟨World.ownsRow.kept hx.1 hg ?_, hx.2⟩ hB1 hT1
    cases hv : x.ownBlock with
    | none => exact .inl rfl
    | some b => exact .inr (fun e => ownsRow_apart h.outer hx.1 hne e.symm hv)
  refine ⟨by simp [hlen], ho, fun b hb => (ho.lt b hb).2, fun i hi => ?_, fun i j hi hj hij b => ?_⟩
  · simp at hi
    by_cases hil : i < xss.length
    · rw [getD_append_left (by omega), getD_append_left hil]
      exact kept _ _ _ _ (h.rows i hil) (by omega) (Nat.le_refl _)
    · obtain rfl : i = xss.length := by omega
      have e1 : (vs ++ [u]).getD xss.length (.slice none 0 0) = u := by rw [← hlen]; exact getD_append_last
      rw [e1, getD_append_last]
      exact kept _ _ _ _ hu hT' hBT
  · simp at hi hj
    have e1 : (vs ++ [u]).getD xss.length (.slice none 0 0) = u := by rw [← hlen]; exact getD_append_last
    by_cases hil : i < xss.length
    · rw [getD_append_left (by omega)]
      by_cases hjl : j < xss.length
      · rw [getD_append_left (by omega)]
        exact h.apart i j hil hjl hij b
      · obtain rfl : j = xss.length := by omega
        rw [e1]
        intro hb hb'
        have h1 := (hu.own b hb').1
        have h2 := (h.rows i hil).2 b hb
        omega
    · obtain rfl : i = xss.length := by omega
      rw [e1, getD_append_left (by omega)]
      intro hb hb'
      have h1 := (hu.own b hb).1
      have h2 := (h.rows j (by omega)).2 b hb'
      omega

theorem RowsAt.wider {eo ei : TypeId} {w : World} {B T T' : Nat} {v : Value} {vs : List Value} {xss : List (List Int)} (h : RowsAt eo ei w B T v vs xss) (hT : T ≤ T') : RowsAt eo ei w B T' v vs xss :=
  ⟨h.len, h.outer, fun k hk => Nat.lt_of_lt_of_le (h.top k hk) hT, fun i hi => (h.rows i hi).widen (Nat.le_refl _) hT, h.apart⟩

theorem RowsAt.lower {eo ei : TypeId} {w : World} {B B' T : Nat} {v : Value} {vs : List Value} {xss : List (List Int)} (h : RowsAt eo ei w B T v vs xss) (hB : B' ≤ B) : RowsAt eo ei w B' T v vs xss :=
  ⟨h.len, World.ownsRow.mono h.outer hB, h.top, fun i hi => (h.rows i hi).widen hB (Nat.le_refl _), h.apart⟩

end Go.Proofs.Ytlkehdjfmmghjab
