/- Maps from places to counts. -/
import Derived.Test.YtbgcbokddldmkaaDoorCc3
import Derived.Maps.RangeWalk
import Derived.Maps.OwnSet
import Derived.DeepKeys4
import Derived.WideKeyEntry
namespace Go.Proofs.YtbgcbokddldmkaaDoor
open Go.RowKit Go.Maps
set_option linter.unusedVariables false

theorem laidOutQ : laidOutB Tryd.prog = true := by kernel_rfl
theorem rowPl : (119 : TypeId) < Tryd.prog.types.size := of_decide_eq_true (by kernel_rfl)
theorem lawPl : WideMaps.KeyLaw Tryd.prog 119 := deep_law_laid laidOutQ (m := 3) (by omega) rowPl (by kernel_rfl) (by rw [Tryd.underlying119])
theorem keyPl : Keyed Tryd.prog 119 := Keyed.of_law lawPl

abbrev aggP (p : Tri) : Value := .agg #[.int .i64 p.1, .int .i64 p.2.1, .int .i64 p.2.2]

/-- The key of a place. -/
def IsKeyP (p : Tri) (kl : Lit) : Prop := keyOf Tryd.prog 119 (aggP p) = some kl

theorem keyLitsP_int (a : Value) (d : Nat) : Tryd.prog.keyLits (d + 1) 3 [a] = match a with | .int .i64 n => if (Lit.int .i64 n).wf = true then some [.int .i64 n] else none | _ => none := by
  unfold Program.keyLits
  rw [Tryd.underlying3]
  cases a <;> try rfl
  rename_i q n
  cases q <;> simp

theorem keyLits_spot (a b : Value) (d : Nat) : Tryd.prog.keyLits (d + 2) 117 [a, b] = (Tryd.prog.keyLits (d + 1) 3 [a]).bind fun x => (Tryd.prog.keyLits (d + 1) 3 [b]).map fun y => x ++ y := by
  have hc : Tryd.prog.cellsOf 117 = 2 := by kernel_rfl
  have hi : Tryd.prog.cellsOf 3 = 1 := by kernel_rfl
  obtain ⟨x, hx⟩ : ∃ x, Tryd.prog.keyLits (d + 1) 3 [a] = x := ⟨_, rfl⟩
  obtain ⟨y, hy⟩ : ∃ y, Tryd.prog.keyLits (d + 1) 3 [b] = y := ⟨_, rfl⟩
  rw [hx, hy]
  unfold Program.keyLits
  rw [Tryd.underlying117]
  simp [hc, hi, List.mapM_cons, hx, hy]
  cases x <;> cases y <;> simp

theorem keyLits_place (a b c : Value) (d : Nat) : Tryd.prog.keyLits (d + 3) 119 [a, b, c] = (Tryd.prog.keyLits (d + 2) 117 [a, b]).bind fun x => (Tryd.prog.keyLits (d + 2) 3 [c]).map fun y => x ++ y := by
  have hc : Tryd.prog.cellsOf 119 = 3 := by kernel_rfl
  have hs : Tryd.prog.cellsOf 117 = 2 := by kernel_rfl
  have hi : Tryd.prog.cellsOf 3 = 1 := by kernel_rfl
  obtain ⟨x, hx⟩ : ∃ x, Tryd.prog.keyLits (d + 2) 117 [a, b] = x := ⟨_, rfl⟩
  obtain ⟨y, hy⟩ : ∃ y, Tryd.prog.keyLits (d + 2) 3 [c] = y := ⟨_, rfl⟩
  rw [hx, hy]
  unfold Program.keyLits
  rw [Tryd.underlying119]
  simp [hc, hs, hi, List.mapM_cons, hx, hy]
  cases x <;> cases y <;> simp

theorem formedPl (a b c : Value) : (Value.agg #[a, b, c]).formed Tryd.prog 119 = true := by
  have hc : Tryd.prog.cellsOf 119 = 3 := by kernel_rfl
  simp [Value.formed, Tryd.underlying119, hc]

theorem sizePl : ∃ d, Tryd.prog.types.size + 1 = d + 3 := ⟨Tryd.prog.types.size - 2, by have : 2 < Tryd.prog.types.size := Nat.lt_of_le_of_lt (by decide) rowPl; omega⟩

theorem keyOf_aggP (a b c : Value) : keyOf Tryd.prog 119 (.agg #[a, b, c]) = (Tryd.prog.keyLits (Tryd.prog.types.size + 1) 119 [a, b, c]).map fun ls => .string (keyBytes ls) := by
  have hk : Tryd.prog.keyType 119 = true := by kernel_rfl
  unfold keyOf
  simp only [Tryd.underlying119, hk, formedPl, Bool.and_self, if_true]
  rfl

theorem isKeyP_ex (p : Tri) (h1 : (Lit.int .i64 p.1).wf = true) (h2 : (Lit.int .i64 p.2.1).wf = true) (h3 : (Lit.int .i64 p.2.2).wf = true) : ∃ kl, IsKeyP p kl := by
  unfold IsKeyP
  rw [keyOf_aggP]
  obtain ⟨d, hd⟩ := sizePl
  rw [hd, keyLits_place, keyLits_spot, keyLitsP_int, keyLitsP_int, keyLitsP_int]
  simp only [h1, h2, h3, if_true]
  exact ⟨_, rfl⟩

theorem isKeyP_ok {g : Int} {n : Nat} {p : Tri} (hg : isG g) (h : okP g n p) (hn : n ≤ 1000) : ∃ kl, IsKeyP p kl := by
  obtain ⟨⟨h1, h2⟩, ⟨h3, h4⟩, h5, h6⟩ := h
  have : g ≤ 6 := by rcases hg with rfl | rfl <;> omega
  exact isKeyP_ex p (WalkArith.wf_i64 (by omega)) (WalkArith.wf_i64 (by omega)) (WalkArith.wf_i64 (by omega))

theorem three_of_size (cs : Array Value) (h : cs.size = 3) : ∃ a b c, cs = #[a, b, c] := by
  match cs, h with
  | ⟨[a, b, c]⟩, _ => exact ⟨a, b, c, rfl⟩

theorem isKeyP_inv {v : Value} {kl : Lit} (h : keyOf Tryd.prog 119 v = some kl) : ∃ p : Tri, v = aggP p := by
  have hc : Tryd.prog.cellsOf 119 = 3 := by kernel_rfl
  have hk : Tryd.prog.keyType 119 = true := by kernel_rfl
  have hf : v.formed Tryd.prog 119 = true := by
    unfold keyOf at h
    simp only [Tryd.underlying119] at h
    cases e : v.formed Tryd.prog 119
    · rw [e] at h; simp at h
    · rfl
  cases v <;> simp only [Value.formed, Tryd.underlying119, Bool.false_eq_true] at hf
  rename_i cs
  rw [hc] at hf
  have hs : cs.size = 3 := by simpa using hf
  obtain ⟨a, b, c, rfl⟩ := three_of_size cs hs
  rw [keyOf_aggP] at h
  obtain ⟨d, hd⟩ := sizePl
  rw [hd, keyLits_place, keyLits_spot, keyLitsP_int, keyLitsP_int, keyLitsP_int] at h
  split at h
  · split at h
    · split at h
      · split at h
        · split at h
          · split at h
            · exact ⟨(_, _, _), rfl⟩
            · simp at h
          · simp at h
        · simp at h
      · simp at h
    · simp at h
  · simp at h

theorem isKeyP_inj {p q : Tri} {kl : Lit} (h1 : IsKeyP p kl) (h2 : IsKeyP q kl) : p = q := by
  have h := keyPl.inj h1 h2
  simp only [aggP, Value.agg.injEq] at h
  have h' := congrArg Array.toList h
  simp at h'
  exact Prod.ext h'.1 (Prod.ext h'.2.1 h'.2.2)

theorem isKeyP_one {p : Tri} {k l : Lit} (h1 : IsKeyP p k) (h2 : IsKeyP p l) : k = l := by
  unfold IsKeyP at h1 h2
  rw [h1] at h2
  exact Option.some.inj h2

noncomputable abbrev elemN : Value → Option (DataW Unit × List MemPlace) := plainElem Tryd.prog 3
theorem elemN_mk {a : Int} (h : (Lit.int .i64 a).wf = true) : elemN (.int .i64 a) = some (.lit (.int .i64 a), []) := plainElem_int Tryd.underlying3 h
theorem elemN_inv {v : Value} {y : DataW Unit × List MemPlace} (h : elemN v = some y) : ∃ a, v = .int .i64 a ∧ y = (.lit (.int .i64 a), []) ∧ (Lit.int .i64 a).wf = true := plainElem_int_inv Tryd.underlying3 h

/-- What a map reads as: so many at each place. -/
structure ReadsC (D : DataW Unit) (xs : Cnts) : Prop where
  once : Once xs
  has : ∀ q ∈ xs, ∃ kl, IsKeyP q.1 kl ∧ Maps.has D kl = true ∧ ∀ z, D.atKey kl z = .lit (.int .i64 q.2)
  all : ∀ p kl, IsKeyP p kl → Maps.has D kl = true → ∃ q ∈ xs, q.1 = p

theorem ReadsC.nil : ReadsC (.map []) [] := ⟨by simp [Once], fun q hq => by simp at hq, fun p kl _ h => by simp [has_eq] at h⟩

theorem ReadsC.look {D : DataW Unit} {xs : Cnts} (h : ReadsC D xs) {p : Tri} {kl : Lit} (hk : IsKeyP p kl) : D.atKey kl (.lit (.int .i64 0)) = .lit (.int .i64 (look xs p)) := by
  by_cases hp : ∃ q ∈ xs, q.1 = p
  · obtain ⟨q, hq, rfl⟩ := hp
    obtain ⟨k2, h1, h2, h3⟩ := h.has q hq
    rw [isKeyP_one hk h1, h3, look_mem h.once hq]
  · rw [look_none fun q hq e => hp ⟨q, hq, e⟩]
    refine atKey_of_not_has ?_ _
    cases hh : Maps.has D kl with
    | false => rfl
    | true =>
      obtain ⟨q, hq, e⟩ := h.all p kl hk hh
      exact absurd ⟨q, hq, e⟩ hp

theorem ReadsC.put {D : DataW Unit} {xs : Cnts} (h : ReadsC D xs) (hD : IsMap D) {p : Tri} {kl : Lit} (hk : IsKeyP p kl) (x : Int) : ReadsC (D.put kl (.lit (.int .i64 (Go.Proofs.YtbgcbokddldmkaaDoor.look xs p + x)))) (bump xs p x) := by
  have hkl := keyPl.key hk
  refine ⟨once_bump h.once p x, fun q hq => ?_, fun r kr hr hh => ?_⟩
  · unfold bump at hq
    rcases List.mem_append.1 hq with hq | hq
    · obtain ⟨k2, h1, h2, h3⟩ := h.has q (List.mem_filter.1 hq).1
      have hne : k2 ≠ kl := fun e => not_without xs p q hq (isKeyP_inj h1 (e ▸ hk))
      exact ⟨k2, h1, by rw [has_put_other hne]; exact h2, fun z => by rw [atKey_put_other hne]; exact h3 z⟩
    · obtain rfl : q = (p, Go.Proofs.YtbgcbokddldmkaaDoor.look xs p + x) := by simpa using hq
      exact ⟨kl, hk, has_put_same hD hkl _, fun z => atKey_put_same hD hkl _ z⟩
  · by_cases e : kr = kl
    · subst e
      exact ⟨(p, Go.Proofs.YtbgcbokddldmkaaDoor.look xs p + x), by unfold bump; simp, isKeyP_inj hk hr⟩
    · rw [has_put_other e] at hh
      obtain ⟨q, hq, rfl⟩ := h.all r kr hr hh
      refine ⟨q, ?_, rfl⟩
      unfold bump
      refine List.mem_append.2 (.inl (List.mem_filter.2 ⟨hq, ?_⟩))
      have : q.1 ≠ p := fun e2 => e (isKeyP_one hr (e2 ▸ hk))
      simpa using this

/-- Block b is a map of at most n entries that tells xs. -/
def MapC (w : World) (b n : Nat) (xs : Cnts) : Prop := ∃ D, w.ownsMap Tryd.prog 119 elemN b n D ∧ ReadsC D xs

theorem MapC.lt {w : World} {b n : Nat} {xs : Cnts} (h : MapC w b n xs) : b < w.heap.size := by
  obtain ⟨D, h1, _⟩ := h
  exact h1.lt
theorem MapC.kept {w w' : World} {b n : Nat} {xs : Cnts} {row : Option Nat} (h : MapC w b n xs) (hg : w.grownBy w' row) (hne : some b ≠ row) : MapC w' b n xs := by
  obtain ⟨D, h1, h2⟩ := h
  exact ⟨D, h1.kept hg hne, h2⟩
theorem MapC.same {w w' : World} {b n : Nat} {xs : Cnts} (h : MapC w b n xs) (hb : w'.heap[b]? = w.heap[b]?) : MapC w' b n xs := by
  obtain ⟨D, ⟨es, clock, hm, r⟩, h2⟩ := h
  exact ⟨D, ⟨es, clock, hb.trans hm, r⟩, h2⟩
theorem MapC.later {w w' : World} {b n : Nat} {xs : Cnts} (h : MapC w b n xs) (hb : Below w.heap.size w w') : MapC w' b n xs := h.same (hb.block b h.lt)
theorem MapC.made (w : World) : MapC (w.alloc (.map #[] 0)) w.heap.size 0 [] := ⟨_, World.ownsMap_made w _ _ _, .nil⟩

theorem zeroN (w : World) : (zeroValue 3).run Tryd.prog w = .ok (.int .i64 0) w := by kernel_rfl

/-- 'm[k]' tells how many. -/
theorem MapC.look_run {w : World} {b n : Nat} {xs : Cnts} (h : MapC w b n xs) {p : Tri} {kl : Lit} (hk : IsKeyP p kl) : (Instr.lookup 120 (.map (some b)) (aggP p) false).run Tryd.prog w = .ok (.int .i64 (look xs p)) w := by
  obtain ⟨D, h1, h2⟩ := h
  obtain ⟨c, hrun, hat, _⟩ := h1.lookup_int keyPl Tryd.underlying120 Tryd.underlying3 (zeroN w) hk
  rw [h2.look hk] at hat
  simp only [DataW.lit.injEq, Lit.int.injEq, true_and] at hat
  rw [hrun, hat]

theorem goInt_i (n : Nat) : goInt (n : Int) = .int .i64 (n : Int) := rfl

/-- 'm[k] += x', in its steps: the entry, the look-up on either side of it, the store. -/
theorem MapC.bump_run {w : World} {b n : Nat} {xs : Cnts} (h : MapC w b n xs) (hn : n < 1000000) {p : Tri} {kl : Lit} (hk : IsKeyP p kl) (x : Int) (hx : (Lit.int .i64 (look xs p + x)).wf = true) :
    ∃ (st : Nat) (o : Obj) (o' : Obj), (Instr.mapEntry 120 (.map (some b)) (aggP p)).run Tryd.prog w = .ok (.tuple #[.int .i64 (look xs p), .int .i64 (st : Int)]) (Go.ChangeMaps.setBlock w b o) ∧
      (Instr.lookup 120 (.map (some b)) (aggP p) false).run Tryd.prog (Go.ChangeMaps.setBlock w b o) = .ok (.int .i64 (look xs p)) (Go.ChangeMaps.setBlock w b o) ∧
      (Instr.entryStore 120 (.map (some b)) (.int .i64 (st : Int)) (.int .i64 (look xs p + x))).run Tryd.prog (Go.ChangeMaps.setBlock w b o) = .ok () (Go.ChangeMaps.setBlock (Go.ChangeMaps.setBlock w b o) b o') ∧
      MapC (Go.ChangeMaps.setBlock (Go.ChangeMaps.setBlock w b o) b o') b (n + 1) (bump xs p x) := by
  have hlook := h.look_run hk
  obtain ⟨D, hown, hR⟩ := h
  have hown0 := hown
  obtain ⟨es, clock, hb, F, hs, hD⟩ := hown
  have hmax : es.size < maxLen := by unfold maxLen; omega
  obtain ⟨v0, st, es1, clock1, hE, hv0, hS⟩ := Go.WideElems.entry_then_store lawPl Tryd.underlying120 zeroN hb F hk
  obtain ⟨w', hupd, hown', _⟩ := hown0.update keyPl Tryd.underlying120 (by unfold maxLen; omega) hk (elemN_mk hx)
  have hb1 : (Go.ChangeMaps.setBlock w b (.map es1 clock1)).heap[b]? = some (.map es1 clock1) := Go.ChangeMaps.heap_setBlock_same hb _
  obtain ⟨es', clock', hst, hup2⟩ := hS (Go.ChangeMaps.setBlock w b (.map es1 clock1)) (.int .i64 (look xs p + x)) hb1
  have hw' : w' = Go.ChangeMaps.setBlock w b (.map es' clock') := by
    have := hupd.symm.trans hup2
    simpa using this
  -- the element that the entry holds
  have hval : v0 = .int .i64 (look xs p) := by
    rcases Go.Maps.fit_look false keyPl Tryd.underlying120 (zeroN w) hb F hk with ⟨hrun, hno, _⟩ | ⟨e0, y, he0, hek, hrun, _, _⟩
    · have e1 := hrun.symm.trans hlook
      simp at e1
      rcases hv0 with ⟨e2, h2, h3, _⟩ | ⟨_, h3⟩
      · exact absurd h3 (hno e2 h2)
      · rw [h3, e1]
    · have e1 := hrun.symm.trans hlook
      simp at e1
      rcases hv0 with ⟨e2, h2, h3, h4⟩ | ⟨h3, _⟩
      · have : e2 = e0 := entry_eq_of_key (List.pairwise_map.1 F.stamped.2.2) h2 he0 (h3.trans hek.symm)
        rw [h4, this, e1]
      · exact absurd hek (h3 e0 he0)
  subst hval
  -- the look-up behind the entry: the entry's own store of what it holds already leaves a map that reads so
  refine ⟨st, .map es1 clock1, .map es' clock', hE, ?_, hst, ?_⟩
  · have run : ∀ (W : World) (fs : Array MapEntry) (ck : Nat), W.heap[b]? = some (.map fs ck) → (∀ e ∈ fs.toList, ∃ l, keyOf Tryd.prog 119 e.key = some l) → (∃ e ∈ fs.toList, e.key = aggP p) → (∀ e ∈ fs.toList, e.key = aggP p → e.val = .int .i64 (look xs p)) →
        (Instr.lookup 120 (.map (some b)) (aggP p) false).run Tryd.prog W = .ok (.int .i64 (look xs p)) W := by
      intro W fs ck hW hkeys hex hall
      rcases keyPl.find W hk fs.toList hkeys with ⟨_, h2⟩ | ⟨j, e0, h1, h2, h3⟩
      · obtain ⟨e, he, hek⟩ := hex
        exact absurd hek (h2 e he)
      · have hj : fs[j]? = some e0 := by simpa using h2
        have hv := hall e0 (List.mem_of_getElem? h2) h3
        simp [Instr.lookup, run_underlying Tryd.underlying120, MapKept.run_getObj_map hW, keyPl.check W _ hk, h1, Result.andThen, hv]
    have pin : ∀ (v : Value) (s1 : Int) (fs : Array MapEntry) (ck : Nat), (Instr.mapEntry 120 (.map (some b)) (aggP p)).run Tryd.prog w = .ok (.tuple #[v, .int .i64 s1]) (Go.ChangeMaps.setBlock w b (.map fs ck)) → fs = es1 := by
      intro v s1 fs ck hr
      have e1 := hr.symm.trans hE
      simp only [Result.ok.injEq] at e1
      have e2 := congrArg (fun u : World => u.heap[b]?) e1.2
      simp only [Go.ChangeMaps.heap_setBlock_same hb, Option.some.injEq, Obj.map.injEq] at e2
      exact e2.1
    rcases keyPl.find w hk es.toList F.keys with ⟨h1, h2⟩ | ⟨j, e0, h1, h2, h3⟩
    · have hm : (Instr.mapEntry 120 (.map (some b)) (aggP p)).run Tryd.prog w = .ok (.tuple #[.int .i64 0, .int .i64 (clock : Int)]) (Go.ChangeMaps.setBlock w b (.map (es.push ⟨aggP p, .int .i64 0, clock⟩) (clock + 1))) := by
        simp [Instr.mapEntry, run_underlying Tryd.underlying120, MapKept.run_getObj_map hb, keyPl.check w false hk, h1, zeroN _, MapKept.run_setObj_map _ hb, Result.andThen, Go.ChangeMaps.setBlock, goInt]
      have hes := pin _ _ _ _ hm
      have h0 : Go.Proofs.YtbgcbokddldmkaaDoor.look xs p = 0 := by
        have e1 := hm.symm.trans hE
        simp only [Result.ok.injEq, Value.tuple.injEq] at e1
        have e3 := congrArg (fun (a : Array Value) => a[0]?) e1.1
        simp at e3
        exact e3.symm
      refine run _ es1 clock1 hb1 ?_ ?_ ?_ <;> rw [← hes]
      · intro e he
        have he' : e ∈ es ∨ e = ⟨aggP p, .int .i64 0, clock⟩ := by simpa using he
        rcases he' with h | rfl
        · exact F.keys e (by simpa using h)
        · exact ⟨kl, hk⟩
      · exact ⟨⟨aggP p, .int .i64 0, clock⟩, by simp, rfl⟩
      · intro e he hek
        have he' : e ∈ es ∨ e = ⟨aggP p, .int .i64 0, clock⟩ := by simpa using he
        rcases he' with h | rfl
        · exact absurd hek (h2 e (by simpa using h))
        · rw [h0]
    · have hj : es[j]? = some e0 := by simpa using h2
      have hsame : es.modify j (fun e => { e with key := aggP p }) = es := by
        apply Array.ext'
        rw [Array.toList_modify, Go.ChangeMaps.modify_eq_set _ _ _ _ h2]
        have : ({ e0 with key := aggP p } : MapEntry) = e0 := by rw [← h3]
        rw [this]
        exact Go.WideElems.set_self _ _ _ h2
      have hm : (Instr.mapEntry 120 (.map (some b)) (aggP p)).run Tryd.prog w = .ok (.tuple #[e0.val, .int .i64 (e0.born : Int)]) (Go.ChangeMaps.setBlock w b (.map es clock)) := by
        simp [Instr.mapEntry, run_underlying Tryd.underlying120, MapKept.run_getObj_map hb, keyPl.check w false hk, h1, hj, h3, keyPl.stays w hk, hsame, MapKept.run_setObj_map _ hb, Result.andThen, Go.ChangeMaps.setBlock, goInt]
      have hes := pin _ _ _ _ hm
      have h0 : e0.val = .int .i64 (Go.Proofs.YtbgcbokddldmkaaDoor.look xs p) := by
        have e1 := hm.symm.trans hE
        simp only [Result.ok.injEq, Value.tuple.injEq] at e1
        have e3 := congrArg (fun (a : Array Value) => a[0]?) e1.1
        simpa using e3
      refine run _ es1 clock1 hb1 ?_ ?_ ?_ <;> rw [← hes]
      · exact F.keys
      · exact ⟨e0, List.mem_of_getElem? h2, h3⟩
      · intro e he hek
        rw [entry_eq_of_key (List.pairwise_map.1 F.stamped.2.2) he (List.mem_of_getElem? h2) (hek.trans h3.symm)]
        exact h0
  · refine ⟨D.put kl _, ?_, hR.put ⟨_, hD⟩ hk x⟩
    rw [hw'] at hown'
    obtain ⟨es2, clock2, hb2, F2, hs2, hD2⟩ := hown'
    rw [Go.ChangeMaps.heap_setBlock_same hb] at hb2
    simp only [Option.some.injEq, Obj.map.injEq] at hb2
    obtain ⟨rfl, rfl⟩ := hb2
    exact ⟨es', clock', Go.ChangeMaps.heap_setBlock_same hb1 _, F2, hs2, hD2⟩

end Go.Proofs.YtbgcbokddldmkaaDoor
