/- Rows of integers sorted by slices.SortFunc with slices.Compare. -/
import Derived.Test.YtnldnjgnpdicnaaRF
import Derived.Test.YtnldnjgnpdicnaaRE
import Derived.Test.YtnldnjgnpdicnaaSw
import Derived.Sort.OwnSorted
import Derived.Shelf.SlicesE.Kit
namespace Go.Proofs.Ytnldnjgnpdicnaa
open Go.RowKit
set_option linter.unusedVariables false

section
variable {α : Type} [Inhabited α]

theorem heapR {w : World} {g n : Nat} {os : Array Obj} {cur : Array Value} {e : TypeId} {fr : Nat × Nat} (enc : α → Value) (d : Array α) (hb : w.heap[g]? = some (.cells cur e fr)) :
    (Sort.grow (Sort.putRow enc (Sort.ahead w n) g 0 d) os).heap[g]? = some (.cells (Sort.putCells enc 0 d cur) e fr) := by
  have hg : g < w.heap.size := (Array.getElem?_eq_some_iff.1 hb).1
  rw [Sort.heap_grow_old _ _ (by simpa using hg)]
  simp [Sort.putRow, Sort.mapBlock, Sort.ahead, Array.getElem?_modify, hb, Sort.onCells]

theorem grownR {w : World} {g n : Nat} {os : Array Obj} (enc : α → Value) (d : Array α) : w.grownBy (Sort.grow (Sort.putRow enc (Sort.ahead w n) g 0 d) os) (some g) := by
  refine ⟨rfl, rfl, rfl, by simp, fun k hk hne => ?_⟩
  rw [Sort.heap_grow_old _ _ (by simpa using hk)]
  have : g ≠ k := fun e => hne (by rw [e])
  simp [Sort.putRow, Sort.mapBlock, Sort.ahead, Array.getElem?_modify, this]

theorem takeR (enc : α → Value) (cur : Array Value) (ts : Array α) (h : ts.size ≤ cur.size) : (Sort.putCells enc 0 ts cur).toList.take ts.size = ts.toList.map enc := by
  apply List.ext_getElem?
  intro j
  by_cases hj : j < ts.size
  · rw [List.getElem?_take_of_lt hj, Array.getElem?_toList]
    simp [Sort.putCells, hj, show j < cur.size by omega]
  · rw [List.getElem?_take_eq_none (by omega), List.getElem?_eq_none (by simp; omega)]
end

theorem perm_getD {α : Type} (n : Nat) (z : α) (xs : List α) (hn : xs.length = n) (L : List (Fin n)) (h : L.Perm (List.finRange n)) : (L.map fun i => xs.getD i.val z).Perm xs := by
  have h1 := h.map fun i => xs.getD i.val z
  refine h1.trans ?_
  have : (List.finRange n).map (fun i => xs.getD i.val z) = xs := by
    subst hn
    apply List.ext_getElem?
    intro j
    by_cases hj : j < xs.length
    · simp [hj, List.getD]
    · rw [List.getElem?_eq_none (by simp; omega), List.getElem?_eq_none (by omega)]
  rw [this]

set_option maxHeartbeats 2000000 in
/-- Rows in a slice of their own, sorted. -/
theorem sortRows (v : Value) (vs : List Value) (xss : List (List Int)) (B T : Nat) (w : World) (hR : RowsAt 33 3 w B T v vs xss) (hT : T ≤ w.heap.size) (h0 : 0 < xss.length) (hn : xss.length ≤ 1000) :
    Calls Try.prog 137 #[v, .func (.func 138) #[] #[]] w fun e w' => e = .returned (.tuple #[]) ∧ ∃ vs' yss, RowsAt 33 3 w' B w'.heap.size v vs' yss ∧ yss.Perm xss ∧ SortedL yss ∧ w.grownBy w' v.ownBlock := by
  have hlen := hR.len
  rcases hR.outer.2 with ⟨_, h1⟩ | ⟨g, cap, cur, rfl, hB, hg, hc1, hc2, hc3, htk⟩
  · omega
  · obtain ⟨m, hm⟩ : ∃ m, xss.length = m + 1 := ⟨xss.length - 1, by omega⟩
    let enc : Fin (m + 1) → Value := fun i => vs.getD i.val (Value.slice none 0 0)
    let row : Fin (m + 1) → List Int := fun i => xss.getD i.val []
    let cf : Fin (m + 1) → Fin (m + 1) → Int := fun i j => cmpL (row i) (row j)
    let d : Array (Fin (m + 1)) := (List.finRange (m + 1)).toArray
    have hds : d.size = m + 1 := by simp [d]
    have hone : OneCell enc := fun i => by
      obtain ⟨a0, c, hv⟩ := (hR.rows i.val (by omega)).1.openedR
      show (vs.getD i.val (Value.slice none 0 0)).oneCell' = true
      rw [hv]
      rfl
    have hcells : ∀ j, j < m + 1 → vs[j]? = some (enc d[j]!) := fun j hj => by
      have : d[j]! = ⟨j, hj⟩ := by
        rw [getElem!_pos d j (by omega)]
        apply Fin.ext
        simp [d]
      rw [this]
      show vs[j]? = some (vs.getD j (Value.slice none 0 0))
      rw [List.getD_eq_getElem?_getD, List.getElem?_eq_getElem (by omega)]
      rfl
    have hH : Sort.Holds enc w g 0 d := fun j hj => by
      refine ⟨?_, by simp [World.frozen?, hg]⟩
      have htk' : cur.toList.take vs.length = vs := by rwa [Nat.mul_one] at htk
      have h1 : (cur.toList.take vs.length)[j]? = vs[j]? := by rw [htk']
      rw [List.getElem?_take_of_lt (by omega), hcells j (by omega)] at h1
      simp only [World.cell?, hg, Nat.zero_add]
      simp only [Option.isSome_none, Bool.false_eq_true, if_false]
      rw [← Array.getElem?_toList]
      exact h1
    have eg : ∀ args w, (callFunc 138 args).run Try.prog w = .ok (.enter 138 args) w := enters_of Try.func138 (by kernel_rfl) rfl
    have hcmp : CmpLays1 Try.prog 138 #[] enc cf g 0 d.size w := fun n os dk _ x y => by
      have hgr : w.grownBy (sortWorld enc w g 0 n dk os) (some g) := grownR enc dk
      have hrow : ∀ i : Fin (m + 1), IntsIn 3 (sortWorld enc w g 0 n dk os) B T (enc i) (row i) := fun i => by
        have hi := hR.rows i.val (by omega)
        refine ⟨World.ownsRow.kept hi.1 hgr ?_, hi.2⟩
        cases hv : (vs.getD i.val (Value.slice none 0 0)).ownBlock with
        | none => exact .inl rfl
        | some b => exact .inr (fun e => ownsRow_apart hR.outer hi.1 (by decide) (k := g) rfl (hv.trans e))
      refine (compare_any _ _ _ _ B T B T 3 _ (hrow x) (hrow y)).mono ?_
      rintro e w' ⟨rfl, rfl⟩
      exact ⟨rfl, 0, #[], by simp [World.drewN_zero, Sort.grow_empty]⟩
    have hswo : Sort.SWO (ltOf cf) := by
      refine ⟨fun x => ?_, fun x y z h1 h2 => ?_, fun x y z h1 h2 => ?_⟩
      · simp [ltOf, cf, cmpL_refl]
      · simp only [ltOf, decide_eq_true_eq, cf] at h1 h2 ⊢
        exact (cmpL_trans (by omega) (by omega)).2 (.inl h1)
      · simp only [ltOf, decide_eq_false_iff_not, cf] at h1 h2 ⊢
        have e1 := cmpL_swap (row x) (row y)
        have e2 := cmpL_swap (row y) (row z)
        have e3 := cmpL_swap (row x) (row z)
        have := (cmpL_trans (a := row z) (b := row y) (c := row x) (by omega) (by omega)).1
        omega
    have hcon := Any.slices_SortFunc Try.sortR enc hone cf hswo 138 #[] g 0 cap d w eg hcmp hH (Array.getElem?_eq_some_iff.1 hg).1 (by omega)
    change Calls Try.prog 137 _ _ _ at hcon
    rw [show vs.length = d.size by omega]
    refine hcon.mono ?_
    rintro e w' ⟨rfl, d', n, os, hp, hs, rfl⟩
    have hds' : d'.size = m + 1 := hp.1.trans hds
    have hperm : d'.toList.Perm (List.finRange (m + 1)) := by
      have := hp.2.2
      have e1 : d'.extract 0 d.size = d' := by rw [← hp.1]; simp
      have e2 : d.extract 0 d.size = d := by simp
      rw [e1, e2] at this
      simpa [d] using this
    have hgr : w.grownBy (sortWorld enc w g 0 n d' os) (some g) := grownR enc d'
    have hgz := hgr.size
    have hyl : (d'.toList.map row).length = m + 1 := by simp [hds']
    have hvl : (d'.toList.map enc).length = m + 1 := by simp [hds']
    have gv : ∀ i, i < m + 1 → ∃ k : Fin (m + 1), d'.toList[i]? = some k ∧ (d'.toList.map enc).getD i (Value.slice none 0 0) = enc k ∧ (d'.toList.map row).getD i [] = row k := fun i hi => by
      have hi' : i < d'.toList.length := by simp [hds', hi]
      refine ⟨d'.toList[i], List.getElem?_eq_getElem hi', ?_, ?_⟩
      · rw [List.getD_eq_getElem?_getD, List.getElem?_map, List.getElem?_eq_getElem hi']; rfl
      · rw [List.getD_eq_getElem?_getD, List.getElem?_map, List.getElem?_eq_getElem hi']; rfl
    refine ⟨rfl, d'.toList.map enc, d'.toList.map row, ⟨by rw [hvl, hyl], ⟨(Nat.mul_one _).symm, .inr ⟨g, cap, _, by rw [hvl, hds], hB, heapR enc d' hg, by omega, hc2, by simp [Sort.putCells, hc3], ?_⟩⟩, fun k hk => ?_, fun i hi => ?_, fun i j hi hj hij b => ?_⟩, ?_, ?_, hgr⟩
    · have := takeR enc cur d' (by rw [hds']; omega)
      rw [hds'] at this
      rw [hvl, Nat.mul_one]
      exact this
    · have := hR.top k hk
      omega
    · obtain ⟨k, _, e1, e2⟩ := gv i (by omega)
      rw [e1, e2]
      have hk := hR.rows k.val (by omega)
      refine ⟨World.ownsRow.kept hk.1 hgr ?_, fun b hb => by have := hk.2 b hb; omega⟩
      cases hv : (vs.getD k.val (Value.slice none 0 0)).ownBlock with
      | none => exact .inl rfl
      | some b => exact .inr (fun e => ownsRow_apart hR.outer hk.1 (by decide) (k := g) rfl (hv.trans e))
    · obtain ⟨k, hk, e1, _⟩ := gv i (by omega)
      obtain ⟨l, hl, e2, _⟩ := gv j (by omega)
      rw [e1, e2]
      refine hR.apart k.val l.val (by omega) (by omega) (fun e => hij ?_) b
      have hkl : k = l := Fin.ext e
      subst hkl
      have hnd : d'.toList.Nodup := hperm.nodup_iff.2 (List.nodup_finRange _)
      have hi' : i < d'.toList.length := by simp [hds']; omega
      have hj' : j < d'.toList.length := by simp [hds']; omega
      rw [List.getElem?_eq_getElem hi'] at hk
      rw [List.getElem?_eq_getElem hj'] at hl
      have heq := (Option.some.inj hk).trans (Option.some.inj hl).symm
      have hpw := List.pairwise_iff_getElem.1 hnd
      rcases Nat.lt_trichotomy i j with h1 | h1 | h1
      · exact absurd heq (hpw i j hi' hj' h1)
      · exact h1
      · exact absurd heq.symm (hpw j i hj' hi' h1)
    · exact perm_getD (m + 1) [] xss hm _ hperm
    · unfold SortedL
      rw [List.pairwise_iff_getElem]
      intro i j hi hj hij
      have := hs i j (Nat.zero_le _) hij (by omega)
      simp only [List.getElem_map]
      have hi2 : i < d'.size := by omega
      have hj2 : j < d'.size := by omega
      rw [getElem!_pos d' i hi2, getElem!_pos d' j hj2] at this
      simpa [ltOf, lessL, cf] using this
end Go.Proofs.Ytnldnjgnpdicnaa
