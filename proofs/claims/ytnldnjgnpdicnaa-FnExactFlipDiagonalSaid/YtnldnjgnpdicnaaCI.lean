/- A region that draws its order and whose last operation, a communication, waits for all others. -/
import Derived.Test.YtnldnjgnpdicnaaCH
import Derived.OrdersHeld
namespace Go.Proofs.Ytnldnjgnpdicnaa
open Go.RowKit

/-- All ways of so many answers. -/
def bools : Nat → List (List Bool)
  | 0 => [[]]
  | n + 1 => (bools n).flatMap fun l => [true :: l, false :: l]

theorem mem_bools (l : List Bool) : l ∈ bools l.length := by
  induction l with
  | nil => simp [bools]
  | cons b l ih =>
    simp only [List.length_cons, bools, List.mem_flatMap]
    exact ⟨l, ih, by cases b <;> simp⟩

/-- What each listed operation waits for is listed. -/
def waitsOk (ops : Array Oper) (listed : Array Bool) : Bool :=
  (List.range ops.size).all fun i => !listed.getD i true || ((ops[i]?).map (·.after.all fun e => !Region.binds .any e || listed.getD e.on false)).getD false

/-- ops is ops' and one operation more that waits for all others. -/
def lastOk (ops' ops : Array Oper) : Bool :=
  ops.size == ops'.size + 1 && (Region.ready .any ops (Array.replicate (ops'.size + 1) true)).isEmpty &&
    (bools ops'.size).all fun l => !waitsOk ops' l.toArray || if l.all id then decide (Region.ready .any ops (l.toArray.push false) = [ops'.size]) && (Region.ready .any ops' l.toArray).isEmpty
      else decide (Region.ready .any ops (l.toArray.push false) = Region.ready .any ops' l.toArray) && !(Region.ready .any ops' l.toArray).isEmpty

theorem go_step_some {ops : Array Oper} {fuel t : Nat} {listed : Array Bool} {i : Nat} (h : (Region.ready .any ops listed)[t % (Region.ready .any ops listed).length]? = some i) :
    Region.linearise.go .any ops (fuel + 1) t listed [] = i :: Region.linearise.go .any ops fuel (t / (Region.ready .any ops listed).length) (listed.setIfInBounds i true) [] := by
  simp only [Region.linearise.go]
  change (match (Region.ready .any ops listed)[t % (Region.ready .any ops listed).length]? with
      | some i => Region.linearise.go .any ops fuel (t / (Region.ready .any ops listed).length) (listed.setIfInBounds i true) [i]
      | none => [].reverse) = _
  rw [h]
  show Region.linearise.go .any ops fuel _ _ [i] = _
  rw [linearise_go_acc]
  rfl

theorem go_step_none {ops : Array Oper} {fuel t : Nat} {listed : Array Bool} (h : Region.ready .any ops listed = []) :
    Region.linearise.go .any ops fuel t listed [] = [] := by
  cases fuel with
  | zero => rfl
  | succ fuel =>
    simp only [Region.linearise.go]
    change (match (Region.ready .any ops listed)[t % (Region.ready .any ops listed).length]? with
      | some i => Region.linearise.go .any ops fuel (t / (Region.ready .any ops listed).length) (listed.setIfInBounds i true) [i]
      | none => [].reverse) = _
    rw [h]
    rfl

theorem ready_mem {ops : Array Oper} {listed : Array Bool} {i : Nat} (h : i ∈ Region.ready .any ops listed) : i < ops.size ∧ listed.getD i true = false := by
  unfold Region.ready at h
  rw [List.mem_filter, List.mem_range] at h
  refine ⟨h.1, ?_⟩
  have := h.2
  simp only [Bool.and_eq_true, Bool.not_eq_true'] at this
  exact this.1

theorem ready_waits {ops : Array Oper} {listed : Array Bool} {i : Nat} (hs : listed.size = ops.size) (h : i ∈ Region.ready .any ops listed) (hw : waitsOk ops listed = true) : waitsOk ops (listed.setIfInBounds i true) = true := by
  have hm := ready_mem h
  unfold waitsOk at hw ⊢
  rw [List.all_eq_true] at hw ⊢
  have hmono : ∀ k : Nat, listed.getD k false = true → (listed.setIfInBounds i true).getD k false = true := by
    intro k hk
    by_cases hki : k = i
    · subst hki
      simp [Array.getD, hs, hm.1]
    · simp only [Array.getD_eq_getD_getElem?, Array.getElem?_setIfInBounds_ne (Ne.symm hki)] at hk ⊢
      exact hk
  have hpass : ∀ j : Nat, ((ops[j]?).map (fun o : Oper => o.after.all fun e => !Region.binds .any e || listed.getD e.on false)).getD false = true →
      ((ops[j]?).map (fun o : Oper => o.after.all fun e => !Region.binds .any e || (listed.setIfInBounds i true).getD e.on false)).getD false = true := by
    intro j hj
    cases ho : ops[j]? with
    | none => rw [ho] at hj; exact hj
    | some o =>
      rw [ho] at hj
      simp only [Option.map_some, Option.getD_some, Array.all_eq_true] at hj ⊢
      intro k hk
      have := hj k hk
      rw [Bool.or_eq_true] at this ⊢
      exact this.imp id (hmono _)
  intro j hj
  rw [Bool.or_eq_true]
  by_cases hji : j = i
  · right
    subst hji
    refine hpass j ?_
    unfold Region.ready at h
    rw [List.mem_filter, Bool.and_eq_true] at h
    exact h.2.2
  · have := hw j hj
    rw [Bool.or_eq_true] at this
    rcases this with h1 | h1
    · left
      simp only [Array.getD_eq_getD_getElem?, Array.getElem?_setIfInBounds_ne (Ne.symm hji)] at h1 ⊢
      exact h1
    · exact .inr (hpass j h1)

theorem lin_last {ops' ops : Array Oper} (hok : lastOk ops' ops = true) : ∀ (fuel t : Nat) (l : List Bool), l.length = ops'.size → l.count false ≤ fuel → waitsOk ops' l.toArray = true →
    Region.linearise.go .any ops (fuel + 1) t (l.toArray.push false) [] = Region.linearise.go .any ops' fuel t l.toArray [] ++ [ops'.size] := by
  unfold lastOk at hok
  rw [Bool.and_eq_true, Bool.and_eq_true, List.all_eq_true] at hok
  obtain ⟨⟨hs, hfull⟩, hall⟩ := hok
  have hs' : ops.size = ops'.size + 1 := by simpa using hs
  have hall : ∀ l ∈ bools ops'.size, waitsOk ops' l.toArray = true → (if l.all id then decide (Region.ready .any ops (l.toArray.push false) = [ops'.size]) && (Region.ready .any ops' l.toArray).isEmpty
      else decide (Region.ready .any ops (l.toArray.push false) = Region.ready .any ops' l.toArray) && !(Region.ready .any ops' l.toArray).isEmpty) = true := fun l hl hw => by
    have := hall l hl
    rw [hw] at this
    simpa using this
  have allT : ∀ (t fuel : Nat) (l : List Bool), l.length = ops'.size → l.all id = true → waitsOk ops' l.toArray = true → Region.linearise.go .any ops (fuel + 1) t (l.toArray.push false) [] = [ops'.size] := by
    intro t fuel l hl ha hw
    have h1 := hall l (hl ▸ mem_bools l) hw
    rw [if_pos ha, Bool.and_eq_true, decide_eq_true_eq] at h1
    have hrep : l = List.replicate ops'.size true := by
      refine List.eq_replicate_iff.2 ⟨hl, fun b hb => ?_⟩
      exact List.all_eq_true.1 ha b hb
    rw [go_step_some (i := ops'.size) (by rw [h1.1, List.length_singleton, Nat.mod_one]; rfl)]
    have e : ((l.toArray.push false).setIfInBounds ops'.size true) = Array.replicate (ops'.size + 1) true := by
      apply Array.toList_inj.1
      rw [hrep]
      simp [List.replicate_succ']
    rw [e, go_step_none (List.isEmpty_iff.1 hfull)]
  intro fuel
  induction fuel with
  | zero =>
    intro t l hl hc hw
    have ha : l.all id = true := by
      rw [List.all_eq_true]
      intro b hb
      have h0 : l.count false = 0 := Nat.le_zero.1 hc
      cases b
      · exact absurd (List.count_pos_iff.2 hb) (by omega)
      · rfl
    rw [allT t 0 l hl ha hw]
    rfl
  | succ fuel ih =>
    intro t l hl hc hw
    by_cases ha : l.all id = true
    · have h1 := hall l (hl ▸ mem_bools l) hw
      rw [if_pos ha, Bool.and_eq_true] at h1
      rw [allT t (fuel + 1) l hl ha hw, go_step_none (List.isEmpty_iff.1 h1.2)]
      rfl
    · have h1 := hall l (hl ▸ mem_bools l) hw
      rw [if_neg ha, Bool.and_eq_true, decide_eq_true_eq] at h1
      obtain ⟨h1, h2⟩ := h1
      have hne : Region.ready .any ops' l.toArray ≠ [] := by
        intro e
        rw [e] at h2
        simp at h2
      have hpos : 0 < (Region.ready .any ops' l.toArray).length := List.length_pos_iff.2 hne
      obtain ⟨i, hi⟩ : ∃ i, (Region.ready .any ops' l.toArray)[t % (Region.ready .any ops' l.toArray).length]? = some i := ⟨_, List.getElem?_eq_getElem (Nat.mod_lt _ hpos)⟩
      have hm := ready_mem (List.mem_of_getElem? hi)
      have hil : i < l.length := by omega
      have hif : l[i] = false := by
        have := hm.2
        simp [Array.getD, hil] at this
        exact this
      rw [go_step_some (i := i) (by rw [h1]; exact hi), go_step_some hi, h1]
      have e : (l.toArray.push false).setIfInBounds i true = (l.set i true).toArray.push false := by
        apply Array.toList_inj.1
        simp [hil]
      have e2 : l.toArray.setIfInBounds i true = (l.set i true).toArray := by simp
      rw [e, e2, ih _ (l.set i true) (by simp [hl])]
      · rfl
      · rw [List.count_set hil]
        simp [hif]
        have := List.count_pos_iff.2 (hif ▸ List.getElem_mem hil : false ∈ l)
        omega
      · rw [← e2]
        exact ready_waits (by simp [hl]) (List.mem_of_getElem? hi) hw

section
variable {P : Program} {ops' ops : Array Oper} {Q : Exit → Act → World → Prop} {S : World → Prop}

theorem AtOps.pre_any {rest : List Nat} : ∀ (l : List Nat) (a : Act) (w : World), (∀ i ∈ l, ops[i]? = ops'[i]?) → (∀ (i : Nat) (o : Oper), ops'[i]? = some o → o.guard = Option.none) →
    wpOps P ops' (Exit.then (AtOps P ops Q rest) Q) l a w → AtOps P ops Q (l ++ rest) a w := by
  intro l
  induction l with
  | nil => intro a w _ _ h; exact h
  | cons i l ih =>
    intro a w hl hg h
    rw [List.cons_append]
    refine AtOps.cons ?_
    rw [wpOps_cons] at h
    have e : ops[i]? = ops'[i]? := hl i (by simp)
    unfold wpOp at h ⊢
    rw [e]
    cases ho : ops'[i]? with
    | none =>
      simp only [ho] at h ⊢
      exact ih _ _ (fun j hj => hl j (by simp [hj])) hg h
    | some o =>
      have hw : ∀ y, Region.wanted o y = true := fun y => by simp [Region.wanted, hg i o ho]
      simp only [ho, hw, if_true] at h ⊢
      rcases h with h | h
      · refine .inl ?_
        have h2 : o.wp P a w (AtOps P ops Q (l ++ rest)) (Exit.then (AtOps P ops Q rest) Q) := Oper.wp_mono (fun a w hh => ih a w (fun j hj => hl j (by simp [hj])) hg hh) h
        unfold Oper.wp at h2 ⊢
        generalize (execOp a.eval o).run P w = r at h2 ⊢
        cases r with
        | ok n w' => cases n <;> exact h2
        | halt x w' => cases x <;> exact h2
      · exact .inr h

theorem go_lt : ∀ (fuel t : Nat) (listed : Array Bool), ∀ i ∈ Region.linearise.go .any ops' fuel t listed [], i < ops'.size := by
  intro fuel
  induction fuel with
  | zero => intro t listed i hi; simp [Region.linearise.go] at hi
  | succ fuel ih =>
    intro t listed i hi
    cases hr : (Region.ready .any ops' listed)[t % (Region.ready .any ops' listed).length]? with
    | none =>
      by_cases h0 : Region.ready .any ops' listed = []
      · rw [go_step_none h0] at hi
        simp at hi
      · have hpos := List.length_pos_iff.2 h0
        rw [List.getElem?_eq_getElem (Nat.mod_lt _ hpos)] at hr
        simp at hr
    | some j =>
      rw [go_step_some hr] at hi
      rcases List.mem_cons.1 hi with rfl | hi
      · exact (ready_mem (List.mem_of_getElem? hr)).1
      · exact ih _ _ _ hi

/-- A region that draws its order and ends in what only the machine does. -/
theorem wp_region_last {id : Nat} {a : Act} {w : World} (hm : P.follows .mixedOrders = true) (hok : lastOk ops' ops = true) (hpre : ∀ i, i < ops'.size → ops[i]? = ops'[i]?) (hg : ∀ (i : Nat) (o : Oper), ops'[i]? = some o → o.guard = Option.none) (hS : S w.drew)
    (h : S w.drew → wpAnyH P .any ops' (Exit.then (AtOps P ops Q [ops'.size]) Q) S ops'.size (Array.replicate ops'.size false) a w.drew) : (Code.region id ops true).wp P Q a w := by
  intro b k cs
  have hsz : ops.size = ops'.size + 1 := by
    unfold lastOk at hok
    rw [Bool.and_eq_true, Bool.and_eq_true] at hok
    simpa using hok.1.1
  obtain ⟨t, ht⟩ : ∃ t, w.tape w.drawn (.order b.fn id) = t := ⟨_, rfl⟩
  have h1 := wpAny_sound ops'.size t _ a _ (wpAny_of_held _ _ _ _ (h hS))
  have h2 := AtOps.pre_any (ops := ops) _ a w.drew (fun i hi => hpre i (go_lt _ _ _ i hi)) hg h1
  have h3 := lin_last hok ops'.size t (List.replicate ops'.size false) (by simp) (by simp) (by
    unfold waitsOk
    rw [List.all_eq_true]
    intro i hi
    simp at hi
    simp [Array.getD, hi])
  have e : (List.replicate ops'.size false).toArray.push false = Array.replicate ops.size false := by
    apply Array.toList_inj.1
    rw [hsz]
    simp [List.replicate_succ']
  have e2 : (List.replicate ops'.size false).toArray = Array.replicate ops'.size false := by simp
  rw [e, e2, ← hsz] at h3
  rw [← h3] at h2
  obtain ⟨x, a', w', q, r⟩ := h2 b k cs
  refine ⟨x, a', w', q, .of_steps (.one step_region_draw) ?_⟩
  simp only [Region.schedule, hm, Bool.true_or, if_true, ht]
  exact r
end

/-- .. the region written out. -/
theorem wp_region_last_list {P : Program} {Q : Exit → Act → World → Prop} {id : Nat} {l : List Oper} {a : Act} {w : World} (S : World → Prop) (hm : P.follows .mixedOrders = true) (hok : lastOk l.dropLast.toArray l.toArray = true) (hg : l.dropLast.all (·.guard.isNone) = true) (hS : S w.drew)
    (h : S w.drew → wpAnyH P .any l.dropLast.toArray (Exit.then (AtOps P l.toArray Q [l.dropLast.length]) Q) S l.dropLast.length (Array.replicate l.dropLast.length false) a w.drew) : (Code.region id l.toArray true).wp P Q a w := by
  refine wp_region_last (ops' := l.dropLast.toArray) (S := S) hm hok (fun i hi => ?_) (fun i o hi => ?_) hS (fun hs => ?_)
  · simp only [List.size_toArray] at hi
    rw [List.getElem?_toArray, List.getElem?_toArray, List.getElem?_dropLast, if_pos (by rw [List.length_dropLast] at hi; exact hi)]
  · have hm2 : o ∈ l.dropLast := by
      rw [List.getElem?_toArray] at hi
      exact List.mem_of_getElem? hi
    have := List.all_eq_true.1 hg o hm2
    simpa using this
  · simpa using h hs

/-- The operations that are left are those of the ordinary walk. -/
theorem AtOps.tail {P : Program} {l : List Oper} {Q : Exit → Act → World → Prop} {a : Act} {w : World} {rest : List Nat} (k : Nat) (hr : rest = List.range' k (l.drop k).length) (h : wpList P l.toArray Q (l.drop k) a w) : AtOps P l.toArray Q rest a w := by
  subst hr
  refine AtOps.of_ops ?_
  rw [wpOps_eq_wpList (l.drop k) k (fun j => by rw [List.getElem?_drop, List.getElem?_toArray])]
  exact h

/-- A piece of code that the walk shall stop at. -/
@[irreducible] def hideC (c : Code) : Code := c
theorem hideC_eq (c : Code) : c = hideC c := by unfold hideC; rfl
theorem hideC_wp {P : Program} {c : Code} {Q : Exit → Act → World → Prop} {a : Act} {w : World} (h : c.wp P Q a w) : (hideC c).wp P Q a w := by rw [← hideC_eq]; exact h

/-- A region that does not draw, all of whose operations but the first ones are the machine's. -/
theorem wp_region_from {P : Program} {Q : Exit → Act → World → Prop} {id : Nat} {l : List Oper} {a : Act} {w : World} (k : Nat) (hk : k ≤ l.length)
    (h : wpList P l.toArray (Exit.then (AtOps P l.toArray Q (List.range' k (l.length - k))) Q) (l.take k) a w) : (Code.region id l.toArray false).wp P Q a w := by
  refine wp_region_at (l1 := l.take k) (rest := List.range' k (l.length - k)) ?_ (fun j o hj => ?_) h
  · rw [List.range_eq_range', List.length_take, Nat.min_eq_left hk]
    conv => lhs; rw [show l.length = k + (l.length - k) by omega]
    rw [← List.range'_append_1]
    simp
  · rw [Nat.zero_add, List.getElem?_toArray]
    rw [List.getElem?_take] at hj
    split at hj
    · exact hj
    · cases hj

/-- A select of one receive with a default: what it takes. -/
theorem AtOps.tookL {P : Program} {ops : Array Oper} {Q : Exit → Act → World → Prop} {a : Act} {w : World} {i : Nat} {rest : List Nat} {o : Oper} {w₁ : World} {c cap s r : Nat} {v : Value} {vs : List Value} {z : Value} {tm cl : Bool} (ho : ops[i]? = some o) (hw : Region.wanted o (yielded ops a.tmps) = true)
    (hr : (execOp a.eval o).run P w = .ok (.comm #[Conc.rcase c z] false .select) w₁) (hc : w₁.heap[c]? = some (.chan cap (v :: vs).toArray cl s r tm))
    (h : AtOps P ops Q rest (a.put o.dst (.tuple #[goInt 0, .bool true, v])) (w₁.setChan c cap vs.toArray cl s (r + 1) tm)) : AtOps P ops Q (i :: rest) a w := by
  refine AtOps.took ho hw hr hc (by simp) ?_
  have e1 : (v :: vs).toArray.extract 1 (v :: vs).toArray.size = vs.toArray := by
    apply Array.toList_inj.1
    simp
  have e2 : (v :: vs).toArray.getD 0 undef = v := by simp
  rw [e1, e2]
  exact h

/-- A send into a buffer with room. -/
theorem AtOps.sendL {P : Program} {ops : Array Oper} {Q : Exit → Act → World → Prop} {a : Act} {w : World} {i : Nat} {rest : List Nat} {o : Oper} {w₁ : World} {c cap s r : Nat} {vs : List Value} {v z : Value} {tm : Bool} (ho : ops[i]? = some o) (hw : Region.wanted o (yielded ops a.tmps) = true)
    (hr : (execOp a.eval o).run P w = .ok (.comm #[Conc.scase c v z] true .send) w₁) (hc : w₁.heap[c]? = some (.chan cap vs.toArray false s r tm)) (hroom : vs.length < cap)
    (h : AtOps P ops Q rest (a.put o.dst undef) (w₁.setChan c cap (vs ++ [v]).toArray false (s + 1) r tm)) : AtOps P ops Q (i :: rest) a w := by
  refine AtOps.send ho hw hr hc (by simpa using hroom) ?_
  have e : vs.toArray.push v = (vs ++ [v]).toArray := by simp
  rw [e]
  exact h
end Go.Proofs.Ytnldnjgnpdicnaa
