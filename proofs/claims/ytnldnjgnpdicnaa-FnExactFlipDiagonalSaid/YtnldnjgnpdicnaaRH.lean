/- Regions, the model: what its list is made of. -/
import Derived.Test.YtnldnjgnpdicnaaRF
import Derived.Test.YtnldnjgnpdicnaaRE
import Derived.Test.YtnldnjgnpdicnaaBA
import Derived.Test.YtnldnjgnpdicnaaBL
import Derived.Test.YtnldnjgnpdicnaaA5
namespace Go.Proofs.Ytnldnjgnpdicnaa
open Go.RowKit
set_option linter.unusedVariables false

/-- The slice v, wherever it lies, holds the values us, each a cell. -/
def SrcV (w : World) (v : Value) (us : List Value) : Prop :=
  (v = (Value.slice none 0 0) ∧ us = []) ∨ ∃ (b off cap : Nat), v = .slice (some ⟨b, off, none⟩) us.length cap ∧ us.length ≤ maxLen ∧ ∀ i u, us[i]? = some u → w.cell? ⟨b, off + i, none⟩ = some u

theorem SrcV.later {w w' : World} {v : Value} {us : List Value} (h : SrcV w v us) (hb : Below w.heap.size w w') : SrcV w' v us := by
  rcases h with h | ⟨b, off, cap, hv, hm, hc⟩
  · exact .inl h
  · exact .inr ⟨b, off, cap, hv, hm, fun i u hu => (hb.cell (World.block_lt_of_cell? w _ (hc i u hu))).trans (hc i u hu)⟩

theorem ownsRow_src {w : World} {B : Nat} {e : TypeId} {v : Value} {us : List Value} (h : w.ownsRow B e 1 v us.length us) : SrcV w v us := by
  rcases h.2 with ⟨hv, hn⟩ | ⟨g, cap, cur, hv, hB, hg, hn, hm, hs, ht⟩
  · exact .inl ⟨hv, List.eq_nil_of_length_eq_zero hn⟩
  · subst hv
    refine .inr ⟨g, 0, cap, rfl, by omega, fun i u hu => ?_⟩
    have hi : i < us.length := by
      rcases Nat.lt_or_ge i us.length with h | h
      · exact h
      · rw [List.getElem?_eq_none h] at hu; cases hu
    have ht' : cur.toList.take us.length = us := by rwa [Nat.mul_one] at ht
    rw [← ht', List.getElem?_take_of_lt hi] at hu
    simp only [World.cell?, hg, Nat.zero_add]
    simpa using hu

theorem src_nil {w : World} {g cap off : Nat} : SrcV w (.slice (some ⟨g, off, none⟩) 0 cap) [] := .inr ⟨g, off, cap, rfl, by simp, fun i u hu => by simp at hu⟩

theorem srcV_take {w : World} {g n cap k : Nat} {us : List Value} (h : SrcV w (.slice (some ⟨g, 0, none⟩) n cap) us) (hk : k ≤ us.length) : SrcV w (.slice (some ⟨g, 0, none⟩) k cap) (us.take k) := by
  rcases h with ⟨h, _⟩ | ⟨b, off, c, hv, hm, hc⟩
  · cases h
  · cases hv
    have hl : (us.take k).length = k := by simp; omega
    refine .inr ⟨g, 0, cap, by rw [hl], by omega, fun i u hu => hc i u ?_⟩
    have hi : i < k := by
      rcases Nat.lt_or_ge i k with h | h
      · exact h
      · rw [List.getElem?_eq_none (by omega)] at hu; cases hu
    rwa [List.getElem?_take_of_lt hi] at hu

theorem srcV_drop_if {w : World} {g n m cap c' k : Nat} {us : List Value} (h : SrcV w (.slice (some ⟨g, 0, none⟩) n cap) us) (hk : k ≤ us.length) (hc : us.length ≤ cap) (hm : m = us.length - k) :
    SrcV w (.slice (if cap = k then some ⟨g, 0, none⟩ else some ⟨g, k, none⟩) m c') (us.drop k) := by
  subst hm
  rcases h with ⟨h, _⟩ | ⟨b, off, c, hv, hm, hcc⟩
  · cases h
  · cases hv
    by_cases e : cap = k
    · rw [if_pos e]
      have hl : (us.drop k).length = 0 := by simp; omega
      exact .inr ⟨g, 0, c', by rw [hl, show us.length - k = 0 by omega], by omega, fun i u hu => by rw [List.getElem?_eq_none (by omega)] at hu; cases hu⟩
    · rw [if_neg e]
      refine .inr ⟨g, k, c', by simp, by simp; omega, fun i u hu => ?_⟩
      rw [List.getElem?_drop] at hu
      have := hcc (k + i) u hu
      rwa [show 0 + (k + i) = k + i by omega] at this

theorem srcV_drop_at {w : World} {g n m cap c' k off : Nat} {us : List Value} (h : SrcV w (.slice (some ⟨g, 0, none⟩) n cap) us) (hk : k ≤ us.length) (hm : m = us.length - k) (ho : off = k ∨ us.length = k) :
    SrcV w (.slice (some ⟨g, off, none⟩) m c') (us.drop k) := by
  subst hm
  rcases h with ⟨h, _⟩ | ⟨b, off', c, hv, hmx, hcc⟩
  · cases h
  · cases hv
    refine .inr ⟨g, off, c', by simp, by simp; omega, fun i u hu => ?_⟩
    rw [List.getElem?_drop] at hu
    have hi : k + i < us.length := by
      rcases Nat.lt_or_ge (k + i) us.length with h | h
      · exact h
      · rw [List.getElem?_eq_none h] at hu; cases hu
    have := hcc (k + i) u hu
    rcases ho with rfl | ho
    · rwa [show 0 + (off + i) = off + i by omega] at this
    · omega

theorem addr_add (b off j : Nat) : (⟨b, off, none⟩ : Addr).add j = ⟨b, off + j, none⟩ := by unfold Addr.add; split <;> simp_all

theorem run_append_vals {P : Program} {w : World} (t ty : TypeId) (B : Nat) (e : TypeId) (z : Value) (bytes : Nat) (ht : P.underlying t = some (.slice e))
    (hi : (P.info? e).map (fun i => (i.zero, i.size, i.bytes)) = some (some z, 1, bytes)) (hz : z.cells.size = 1) (hby : bytes ≤ 64) (v x : Value) (vs us : List Value) (hI : w.ownsRow B e 1 v vs.length vs) (hx : SrcV w x us) (h1 : ∀ y ∈ us, y.oneCell' = true)
    (hn : vs.length + us.length ≤ 1000000000) (hB : B ≤ w.heap.size) :
    ∃ v' w', (Builtin.append_ #[t, t] ty #[v, x]).run P w = .ok v' w' ∧ w'.ownsRow B e 1 v' (vs ++ us).length (vs ++ us) ∧ w.grownBy w' v.ownBlock ∧ (v'.ownBlock = v.ownBlock ∨ v'.ownBlock = some w.heap.size) := by
  obtain ⟨i, hi, hz0, hz1, hz2⟩ := info_parts hi
  have hb : (vs.length + us.length) * bytes ≤ 1000000000 * 64 := Nat.mul_le_mul hn hby
  rcases hx with ⟨rfl, rfl⟩ | ⟨b, off, cap, rfl, hm, hc⟩
  · refine ⟨v, w, run_append_owned_none (P := P) (w := w) B t ty e i 1 ht hi v vs.length _ hI, by rw [List.append_nil]; exact hI, grownBy_refl _ _, .inl rfl⟩
  · obtain ⟨v', w', hr, h2, h3, _, h5⟩ := run_append_own_at (P := P) w B t ty e i z 1 bytes ht hi hz0 hz1 hz2 hz (by decide) v vs.length _ hI ⟨b, off, none⟩ us.length cap us
      (by simp) (fun j u hu => by rw [addr_add]; exact hc j u hu) h1 (by unfold maxLen; omega) (by omega) hB
    refine ⟨v', w', hr, ?_, h3, h5⟩
    rw [List.length_append]
    exact h2

/-- At the list of a region's operations. -/
theorem wpList_append_vals {P : Program} {w : World} {ops : Array Oper} {rest : List Oper} {o : Oper} {a : Act} {Q : Exit → Act → World → Prop} (hgd : o.guard = none) (s x : Operand) (t : TypeId)
    (ho : o.op = .call { callee := .builtin .append, args := #[s, x], argTypes := #[t, t] }) (B : Nat) (e : TypeId) (z : Value) (bytes : Nat) (ht : P.underlying t = some (.slice e))
    (hi : (P.info? e).map (fun i => (i.zero, i.size, i.bytes)) = some (some z, 1, bytes)) (hz : z.cells.size = 1) (hby : bytes ≤ 64) (v u : Value) (vs us : List Value) (hs : a.eval s = v) (hu : a.eval x = u) (hI : w.ownsRow B e 1 v vs.length vs) (hx : SrcV w u us) (h1 : ∀ y ∈ us, y.oneCell' = true)
    (hn : vs.length + us.length ≤ 1000000000) (hB : B ≤ w.heap.size)
    (h : ∀ v' w', w'.ownsRow B e 1 v' (vs ++ us).length (vs ++ us) → w.grownBy w' v.ownBlock → (v'.ownBlock = v.ownBlock ∨ v'.ownBlock = some w.heap.size) → wpList P ops Q rest (a.put o.dst v') w') :
    wpList P ops Q (o :: rest) a w := by
  refine wpList_plain hgd fun K' hK => ?_
  obtain ⟨v', w', hr, h2, h3, h5⟩ := run_append_vals (P := P) (w := w) t o.type B e z bytes ht hi hz hby v u vs us hI hx h1 hn hB
  unfold Oper.wp execOp
  simp only [ho, resolve, invoke, builtin, Sem.run_bind, Sem.run_pure, Result.andThen_ok, List.map_toArray, List.map_cons, List.map_nil, hs, hu, hr]
  exact hK _ _ (h v' w' h2 h3 h5)

/-- A literal's own row. -/
theorem ownsRow_boxed (W : World) (B : Nat) (e : TypeId) (us : List Value) (hB : B ≤ W.heap.size) (hn : us.length ≤ 1000000000) :
    (W.alloc (.cells us.toArray e)).ownsRow B e 1 (.slice (some ⟨W.heap.size, 0, none⟩) us.length us.length) us.length us := by
  refine ⟨by simp, .inr ⟨W.heap.size, us.length, _, rfl, hB, heap_alloc_new W _, Nat.le_refl _, by unfold maxLen; omega, by simp, ?_⟩⟩
  simp

/-- Rows, each with its value, in blocks apart. -/
structure Rws (w : World) (B T : Nat) (rs : List (Value × List Int)) : Prop where
  each : ∀ r ∈ rs, IntsIn 3 w B T r.1 r.2
  apart : rs.Pairwise fun r s => ∀ k, r.1.ownBlock = some k → s.1.ownBlock ≠ some k

theorem Rws.keep {w w' : World} {B T : Nat} {rs : List (Value × List Int)} (h : Rws w B T rs) (hs : Same B T w w') : Rws w' B T rs := ⟨fun r hr => (h.each r hr).keep hs, h.apart⟩
theorem Rws.widen {w : World} {B B' T T' : Nat} {rs : List (Value × List Int)} (h : Rws w B T rs) (hB : B' ≤ B) (hT : T ≤ T') : Rws w B' T' rs := ⟨fun r hr => (h.each r hr).widen hB hT, h.apart⟩
theorem Rws.later {w w' : World} {B T : Nat} {rs : List (Value × List Int)} (h : Rws w B T rs) (hb : Below w.heap.size w w') (hT : T ≤ w.heap.size) : Rws w' B T rs := h.keep (belowSame hb hT)
theorem Rws.sub {w : World} {B T : Nat} {rs ss : List (Value × List Int)} (h : Rws w B T rs) (hs : ss.Sublist rs) : Rws w B T ss := ⟨fun r hr => h.each r (hs.subset hr), h.apart.sublist hs⟩
theorem Rws.perm {w : World} {B T : Nat} {rs ss : List (Value × List Int)} (h : Rws w B T rs) (hs : rs.Perm ss) : Rws w B T ss :=
  ⟨fun r hr => h.each r (hs.mem_iff.2 hr), (hs.pairwise_iff (fun {a b} hab k hb ha => hab k ha hb)).1 h.apart⟩
theorem Rws.cells {w : World} {B T : Nat} {rs : List (Value × List Int)} (h : Rws w B T rs) : ∀ y ∈ rs.map (·.1), y.oneCell' = true := fun y hy => by
  obtain ⟨r, hr, rfl⟩ := List.mem_map.1 hy
  obtain ⟨a0, c, hv⟩ := (h.each r hr).1.openedR
  rw [hv]
  rfl

/-- One region gives way to two new ones. -/
theorem Rws.put {w w' : World} {B T : Nat} {rs : List (Value × List Int)} (h : Rws w B T rs) (i : Nat) (hb : Below w.heap.size w w') (hT : T ≤ w.heap.size) (hB : B ≤ w.heap.size) {u v : Value} {xs ys : List Int}
    (hu : Ints w' w.heap.size 3 u xs) (hv : Ints w' w.heap.size 3 v ys) (ha : ∀ q, u.ownBlock = some q → v.ownBlock ≠ some q) : Rws w' B w'.heap.size (rs.take i ++ [(u, xs), (v, ys)] ++ rs.drop (i + 1)) := by
  have h1 := h.later hb hT
  have hz := hb.size
  have hsub : (rs.take i ++ rs.drop (i + 1)).Sublist rs := by
    conv => rhs; rw [← List.take_append_drop i rs]
    exact List.Sublist.append (List.Sublist.refl _) (List.drop_sublist_drop_left rs (by omega))
  have h2 := h1.sub hsub
  have hold : ∀ r ∈ rs.take i ++ rs.drop (i + 1), ∀ k, r.1.ownBlock = some k → k < w.heap.size := fun r hr k hk => Nat.lt_of_lt_of_le ((h2.each r hr).2 k hk) hT
  have h3 : Rws w' B w'.heap.size ([(u, xs), (v, ys)] ++ (rs.take i ++ rs.drop (i + 1))) := by
    refine ⟨fun r hr => ?_, ?_⟩
    · rcases List.mem_append.1 hr with hr | hr
      · simp at hr
        rcases hr with rfl | rfl
        · exact ⟨hu.mono hB, fun k hk => (hu.own k hk).2⟩
        · exact ⟨hv.mono hB, fun k hk => (hv.own k hk).2⟩
      · exact (h2.each r hr).widen (Nat.le_refl _) (by omega)
    · rw [List.pairwise_append]
      refine ⟨by simpa using ha, h2.apart, fun r hr s hs k hk hk2 => ?_⟩
      have h5 := hold s hs k hk2
      simp at hr
      rcases hr with rfl | rfl
      · have := (hu.own k hk).1; omega
      · have := (hv.own k hk).1; omega
  refine h3.perm ?_
  rw [← List.append_assoc]
  exact List.Perm.append_right _ List.perm_append_comm

/-- An outer row and its rows. -/
structure OwnV (w : World) (B : Nat) (v : Value) (rs : List (Value × List Int)) : Prop where
  outer : w.ownsRow B 33 1 v (rs.map (·.1)).length (rs.map (·.1))
  rows : Rws w B w.heap.size rs

theorem map_getD {α β : Type} (f : α → β) (l : List α) (i : Nat) (z : α) (y : β) (hi : i < l.length) : (l.map f).getD i y = f (l.getD i z) := by
  rw [List.getD_eq_getElem?_getD, List.getD_eq_getElem?_getD, List.getElem?_map, List.getElem?_eq_getElem hi]; rfl

theorem getD_mem {α : Type} (l : List α) (i : Nat) (z : α) (hi : i < l.length) : l.getD i z ∈ l := by
  rw [List.getD_eq_getElem?_getD, List.getElem?_eq_getElem hi]; exact List.getElem_mem _

theorem OwnV.rowsIn {w : World} {B : Nat} {v : Value} {rs : List (Value × List Int)} (h : OwnV w B v rs) : RowsIn 33 3 w B w.heap.size v (rs.map (·.2)) := by
  refine ⟨rs.map (·.1), by simp, h.outer, fun k hk => (h.outer.lt k hk).2, fun i hi => ?_, fun i j hi hj hij k => ?_⟩
  · rw [List.length_map] at hi
    rw [map_getD _ rs i ((Value.slice none 0 0), []) _ hi, map_getD _ rs i ((Value.slice none 0 0), []) _ hi]
    exact h.rows.each _ (getD_mem _ _ _ hi)
  · rw [List.length_map] at hi hj
    rw [map_getD _ rs i ((Value.slice none 0 0), []) _ hi, map_getD _ rs j ((Value.slice none 0 0), []) _ hj]
    have hp := h.rows.apart
    rw [List.pairwise_iff_getElem] at hp
    rw [List.getD_eq_getElem?_getD, List.getElem?_eq_getElem hi, List.getD_eq_getElem?_getD, List.getElem?_eq_getElem hj]
    simp only [Option.getD_some]
    rcases Nat.lt_or_gt_of_ne hij with h1 | h1
    · exact hp i j hi hj h1 k
    · exact fun hk hk2 => hp j i hj hi h1 k hk2 hk

/-- Two lists that are appended to by turns. -/
structure TwoL (w : World) (B : Nat) (u v : Value) (xs ys : List Int) : Prop where
  one : Ints w B 3 u xs
  two : Ints w B 3 v ys
  apart : ∀ q, u.ownBlock = some q → v.ownBlock ≠ some q

theorem TwoL.start (w : World) (B : Nat) : TwoL w B (Value.slice none 0 0) (Value.slice none 0 0) [] [] := ⟨World.ownsRow_nil _ _ _ _, World.ownsRow_nil _ _ _ _, fun q hq => by simp [Value.ownBlock] at hq⟩
theorem TwoL.left {w w' : World} {B g n cap : Nat} {u v : Value} {xs ys : List Int} {y : Int} (h : TwoL w B u v xs ys) (hI : Ints w' B 3 (.slice (some ⟨g, 0, none⟩) n cap) (xs ++ [y])) (hg : w.grownBy w' u.ownBlock) (hl : u.ownBlock = some g ∨ g = w.heap.size + 1) :
    TwoL w' B (.slice (some ⟨g, 0, none⟩) n cap) v (xs ++ [y]) ys := by
  obtain ⟨h1, h2⟩ := Go.Proofs.Ytnldnjgnpdicnaa.apart h.two h.apart hg hl
  exact ⟨hI, h1, fun q hq => by simp [Value.ownBlock] at hq; subst hq; exact h2⟩
theorem TwoL.right {w w' : World} {B g n cap : Nat} {u v : Value} {xs ys : List Int} {y : Int} (h : TwoL w B u v xs ys) (hI : Ints w' B 3 (.slice (some ⟨g, 0, none⟩) n cap) (ys ++ [y])) (hg : w.grownBy w' v.ownBlock) (hl : v.ownBlock = some g ∨ g = w.heap.size + 1) :
    TwoL w' B u (.slice (some ⟨g, 0, none⟩) n cap) xs (ys ++ [y]) := by
  obtain ⟨h1, h2⟩ := Go.Proofs.Ytnldnjgnpdicnaa.apart h.one (fun q hq hq2 => h.apart q hq2 hq) hg hl
  exact ⟨h1, hI, fun q hq hq2 => by simp [Value.ownBlock] at hq2; subst hq2; exact h2 hq⟩

/-- What stands in a list put in order so far, and one row more. -/
theorem insert_sorted {L : List (List Int)} {r : List Int} {k : Nat} (h : SortedL L) (hk : k ≤ L.length) (h1 : 0 < k → lessL r (L.getD (k - 1) []) = false) (h2 : ∀ j, k ≤ j → j < L.length → lessL r (L.getD j []) = true) :
    SortedL (L.take k ++ [r] ++ L.drop k) := by
  have hget : ∀ i (hi : i < L.length), L.getD i [] = L[i] := fun i hi => by rw [List.getD_eq_getElem?_getD, List.getElem?_eq_getElem hi]; rfl
  have hp := h
  unfold SortedL at hp ⊢
  rw [List.pairwise_iff_getElem] at hp
  have before : ∀ a ∈ L.take k, lessL r a = false := fun a ha => by
    obtain ⟨i, hi, rfl⟩ := List.mem_iff_getElem.1 ha
    simp at hi
    have h3 := h1 (by omega)
    rw [hget _ (by omega)] at h3
    rw [List.getElem_take]
    by_cases e : i = k - 1
    · subst e; exact h3
    · have h4 := hp i (k - 1) (by omega) (by omega) (by omega)
      rw [lessL_no] at h3 h4 ⊢
      exact (cmpL_trans h4 h3).1
  have after : ∀ a ∈ L.drop k, lessL a r = false := fun a ha => by
    obtain ⟨i, hi, rfl⟩ := List.mem_iff_getElem.1 ha
    simp at hi
    have h3 := h2 (k + i) (by omega) (by omega)
    rw [hget _ (by omega)] at h3
    rw [List.getElem_drop, lessL_no]
    unfold lessL at h3
    rw [decide_eq_true_eq] at h3
    omega
  rw [List.pairwise_append, List.pairwise_append]
  refine ⟨⟨h.sublist (List.take_sublist _ _), by simp, fun a ha b hb => ?_⟩, h.sublist (List.drop_sublist _ _), fun a ha b hb => ?_⟩
  · simp at hb; subst hb; exact before a ha
  · rcases List.mem_append.1 ha with ha | ha
    · have hh := h
      unfold SortedL at hh
      rw [← List.take_append_drop k L, List.pairwise_append] at hh
      exact hh.2.2 a ha b hb
    · simp at ha; subst ha; exact after b hb

set_option maxHeartbeats 1000000 in
theorem has_any (v : Value) (ys : List Int) (x : Int) (t : Bool) (B : Nat) (e : TypeId) (w : World) (h : Ints w B e v ys) (hn : ys.length ≤ 1000) (ht : ys.contains x = t) :
    Calls Try.prog 52 #[v, .int .i64 x] w fun e' w' => e' = .returned (.bool t) ∧ w = w' := by
  obtain ⟨a0, cap, g, rfl, ha, _, _, _, hc, _⟩ := h.view
  obtain ⟨n, hl⟩ : ∃ n, ys.length = n := ⟨_, rfl⟩
  rw [hl] at ha hc hn ⊢
  have HA := Lib.hid ha
  have HC := Lib.hid hc
  have HL := Lib.hid hl
  have HB := Lib.hid ht
  clear hc hl ht h ha
  go_enter Try.func52, Try.ntmps52
  go_wp2
  go_loop [9] (fun i => ∃ k : Nat, k ≤ n ∧ i = .int .i64 k ∧ Hid (∀ j, j < k → ys.getD j 0 ≠ x)) (fun i => n - (intOf i).toNat)
  case atStart => exact ⟨0, by omega, rfl, Lib.hid (fun j hj => absurd hj (by omega))⟩
  case round =>
    obtain ⟨k, hk, rfl, HN⟩ := hrel
    by_cases hlt : k < n
    · obtain rfl := HA.out (by omega)
      have cc := HC.out k hlt
      obtain ⟨y, hy⟩ : ∃ y, ys.getD k 0 = y := ⟨_, rfl⟩
      rw [hy] at cc
      have hlk : k < ys.length := by have := HL.out; omega
      by_cases he : y = x
      · have hbt : t = true := by
          rw [← HB.out, List.contains_iff_mem, ← he, ← hy, List.getD, List.getElem?_eq_getElem hlk]
          exact List.getElem_mem _
        subst hbt
        subst he
        clear hy hlk
        go_wp2
        go_ret
        exact ⟨rfl, rfl⟩
      · have hne : (y == x) = false := beq_eq_false_iff_ne.2 he
        have HN2 : Hid (∀ j, j < k + 1 → ys.getD j 0 ≠ x) := Lib.hid (fun j hj => by
          rcases Nat.lt_or_ge j k with h | h
          · exact HN.out j h
          · obtain rfl : j = k := by omega
            rw [hy]; exact he)
        clear hy he hlk
        go_wp2
        go_round
        case rel => exact ⟨k + 1, by omega, by go_num, HN2⟩
        case measure => simp [intOf]; omega
    · obtain rfl : k = n := by omega
      have hbf : t = false := by
        rw [← HB.out, Bool.eq_false_iff]
        intro hcon
        rw [List.contains_iff_mem] at hcon
        obtain ⟨j, hj, hx⟩ := List.getElem_of_mem hcon
        exact HN.out j (by have := HL.out; omega) (by rw [List.getD, List.getElem?_eq_getElem hj]; exact hx)
      subst hbf
      go_wp2
      go_ret
      exact ⟨rfl, rfl⟩

set_option maxHeartbeats 1000000 in
theorem reLess_any (u v : Value) (a b : List Int) (t : Bool) (B T B2 T2 : Nat) (e : TypeId) (w : World) (hu : IntsIn e w B T u a) (hv : IntsIn e w B2 T2 v b) (ht : lessL a b = t) :
    Calls Try.prog 100 #[u, v] w fun e w' => e = .returned (.bool t) ∧ w = w' := by
  obtain ⟨a1, c1, g1, rfl, ha1, _, hm1, _, hc1, _⟩ := hu.1.view
  obtain ⟨a2, c2, g2, rfl, ha2, _, hm2, _, hc2, _⟩ := hv.1.view
  unfold maxLen at hm1 hm2
  have HC1 := Lib.hid hc1
  have HC2 := Lib.hid hc2
  have HA1 := Lib.hid ha1
  have HA2 := Lib.hid ha2
  have HT := Lib.hid ht
  clear hu hv ha1 ha2 hc1 hc2 ht
  go_enter Try.func100, Try.ntmps100
  go_wp2
  go_loop [9] (fun i => ∃ k : Nat, k ≤ a.length ∧ k ≤ b.length ∧ i = .int .i64 k ∧ a.take k = b.take k) (fun i => a.length - (intOf i).toNat)
  case atStart => exact ⟨0, by omega, by omega, rfl, by simp⟩
  case round =>
    obtain ⟨k, hk, hk2, rfl, he⟩ := hrel
    have HE := Lib.hid he
    clear he
    by_cases hlt : k < a.length
    · obtain rfl := HA1.out (by omega)
      have x1 := HC1.out k hlt
      by_cases hlt2 : k < b.length
      · obtain rfl := HA2.out (by omega)
        have x2 := HC2.out k hlt2
        obtain ⟨x, hx⟩ : ∃ x, a.getD k 0 = x := ⟨_, rfl⟩
        obtain ⟨y, hy⟩ : ∃ y, b.getD k 0 = y := ⟨_, rfl⟩
        have hat := cmpL_at a b k hlt hlt2 HE.out
        rw [hx, hy] at hat
        rw [hx] at x1
        rw [hy] at x2
        have HX := Lib.hid hx
        have HY := Lib.hid hy
        have HAT := Lib.hid hat
        have hle : ((k : Int) == (b.length : Int)) = false := beq_eq_false_iff_ne.2 (by omega)
        clear hx hy hat
        by_cases h0 : x = y
        · have HST := Lib.hid (take_snoc_eq hlt hlt2 HE.out (by rw [HX.out, HY.out]; exact h0))
          subst h0
          go_wp2
          go_round
          case rel => exact ⟨k + 1, by omega, by omega, by go_num, HST.out⟩
          case measure => simp [intOf]; omega
        · have hxy : (x == y) = false := beq_eq_false_iff_ne.2 h0
          have ht2 : decide (x < y) = t := by
            rw [← HT.out, lessL, HAT.out]
            by_cases h1 : x < y
            · rw [if_pos h1]; simp [h1]
            · rw [if_neg h1, if_pos (by omega)]; simp [h1]
          subst ht2
          go_wp2
          go_ret
          first | exact ⟨rfl, rfl⟩ | simp
      · obtain rfl : k = b.length := by omega
        have ht2 : false = t := by
          rw [← HT.out, lessL, cmpL_right a b hlt (by rw [HE.out, List.take_length])]
          rfl
        subst ht2
        go_wp2
        go_ret
        first | exact ⟨rfl, rfl⟩ | simp
    · obtain rfl : k = a.length := by omega
      have ht2 : decide ((a.length : Int) < (b.length : Int)) = t := by
        rw [← HT.out, lessL, cmpL_left a b hk2 (by have := HE.out; rwa [List.take_length] at this)]
        by_cases h1 : a.length < b.length
        · rw [if_pos h1, decide_eq_true (by omega)]; rfl
        · rw [if_neg h1, decide_eq_false (by omega)]; rfl
      subst ht2
      go_wp2
      go_ret
      first | exact ⟨rfl, rfl⟩ | simp
end Go.Proofs.Ytnldnjgnpdicnaa
