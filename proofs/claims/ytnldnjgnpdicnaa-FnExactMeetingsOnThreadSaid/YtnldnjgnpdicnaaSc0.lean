/- Slices of ints that lie anywhere, as sources of an append. -/
import Derived.Test.YtnldnjgnpdicnaaBA
import Derived.Test.YtnldnjgnpdicnaaRows
import Derived.Test.YtnldnjgnpdicnaaV2
import Derived.Test.YtnldnjgnpdicnaaA1
import Derived.Test.YtnldnjgnpdicnaaBL
namespace Go.Proofs.Ytnldnjgnpdicnaa
open Go.RowKit
set_option linter.unusedVariables false

/-- The slice v, wherever it lies, holds the values us, each a cell. -/
def SrcV (w : World) (v : Value) (us : List Value) : Prop :=
  (v = (Value.slice none 0 0) ∧ us = []) ∨ ∃ (b off cap : Nat), v = .slice (some ⟨b, off, none⟩) us.length cap ∧ us.length ≤ maxLen ∧ ∀ i u, us[i]? = some u → w.cell? ⟨b, off + i, none⟩ = some u

theorem SrcV.later {w w' : World} {v : Value} {us : List Value} (h : SrcV w v us) (hb : Below w.heap.size w w') : SrcV w' v us := by
  rcases h with h | ⟨b, off, cap, hv, hm, hc⟩
  · exact .inl h
  · exact .inr ⟨b, off, cap, hv, hm, fun i u hu => (hb.cell (World.block_lt_of_cell? w _ (hc i u hu))).trans (hc i u hu)⟩

theorem ownsRow_src {w : World} {B : Nat} {e : TypeId} {v : Value} {us : List Value} (h : w.ownsRow B e 1 v us.length us) : SrcV w v us := by
  rcases h.2 with ⟨hv, hn⟩ | ⟨g, cap, cur, hv, hB, hg, hn, hm, hs, ht⟩
  · exact .inl ⟨hv, List.eq_nil_of_length_eq_zero hn⟩
  · subst hv
    refine .inr ⟨g, 0, cap, rfl, by omega, fun i u hu => ?_⟩
    have hi : i < us.length := by
      rcases Nat.lt_or_ge i us.length with h | h
      · exact h
      · rw [List.getElem?_eq_none h] at hu; cases hu
    have ht' : cur.toList.take us.length = us := by rwa [Nat.mul_one] at ht
    rw [← ht', List.getElem?_take_of_lt hi] at hu
    simp only [World.cell?, hg, Nat.zero_add]
    simpa using hu

theorem src_nil {w : World} {g cap off : Nat} : SrcV w (.slice (some ⟨g, off, none⟩) 0 cap) [] := .inr ⟨g, off, cap, rfl, by simp, fun i u hu => by simp at hu⟩

theorem srcV_take {w : World} {g n cap k : Nat} {us : List Value} (h : SrcV w (.slice (some ⟨g, 0, none⟩) n cap) us) (hk : k ≤ us.length) : SrcV w (.slice (some ⟨g, 0, none⟩) k cap) (us.take k) := by
  rcases h with ⟨h, _⟩ | ⟨b, off, c, hv, hm, hc⟩
  · cases h
  · cases hv
    have hl : (us.take k).length = k := by simp; omega
    refine .inr ⟨g, 0, cap, by rw [hl], by omega, fun i u hu => hc i u ?_⟩
    have hi : i < k := by
      rcases Nat.lt_or_ge i k with h | h
      · exact h
      · rw [List.getElem?_eq_none (by omega)] at hu; cases hu
    rwa [List.getElem?_take_of_lt hi] at hu

theorem srcV_drop_if {w : World} {g n m cap c' k : Nat} {us : List Value} (h : SrcV w (.slice (some ⟨g, 0, none⟩) n cap) us) (hk : k ≤ us.length) (hc : us.length ≤ cap) (hm : m = us.length - k) :
    SrcV w (.slice (if cap = k then some ⟨g, 0, none⟩ else some ⟨g, k, none⟩) m c') (us.drop k) := by
  subst hm
  rcases h with ⟨h, _⟩ | ⟨b, off, c, hv, hm, hcc⟩
  · cases h
  · cases hv
    by_cases e : cap = k
    · rw [if_pos e]
      have hl : (us.drop k).length = 0 := by simp; omega
      exact .inr ⟨g, 0, c', by rw [hl, show us.length - k = 0 by omega], by omega, fun i u hu => by rw [List.getElem?_eq_none (by omega)] at hu; cases hu⟩
    · rw [if_neg e]
      refine .inr ⟨g, k, c', by simp, by simp; omega, fun i u hu => ?_⟩
      rw [List.getElem?_drop] at hu
      have := hcc (k + i) u hu
      rwa [show 0 + (k + i) = k + i by omega] at this

theorem srcV_drop_at {w : World} {g n m cap c' k off : Nat} {us : List Value} (h : SrcV w (.slice (some ⟨g, 0, none⟩) n cap) us) (hk : k ≤ us.length) (hm : m = us.length - k) (ho : off = k ∨ us.length = k) :
    SrcV w (.slice (some ⟨g, off, none⟩) m c') (us.drop k) := by
  subst hm
  rcases h with ⟨h, _⟩ | ⟨b, off', c, hv, hmx, hcc⟩
  · cases h
  · cases hv
    refine .inr ⟨g, off, c', by simp, by simp; omega, fun i u hu => ?_⟩
    rw [List.getElem?_drop] at hu
    have hi : k + i < us.length := by
      rcases Nat.lt_or_ge (k + i) us.length with h | h
      · exact h
      · rw [List.getElem?_eq_none h] at hu; cases hu
    have := hcc (k + i) u hu
    rcases ho with rfl | ho
    · rwa [show 0 + (off + i) = off + i by omega] at this
    · omega

theorem addr_add (b off j : Nat) : (⟨b, off, none⟩ : Addr).add j = ⟨b, off + j, none⟩ := by unfold Addr.add; split <;> simp_all

theorem run_append_vals {P : Program} {w : World} (t ty : TypeId) (B : Nat) (e : TypeId) (z : Value) (bytes : Nat) (ht : P.underlying t = some (.slice e))
    (hi : (P.info? e).map (fun i => (i.zero, i.size, i.bytes)) = some (some z, 1, bytes)) (hz : z.cells.size = 1) (hby : bytes ≤ 64) (v x : Value) (vs us : List Value) (hI : w.ownsRow B e 1 v vs.length vs) (hx : SrcV w x us) (h1 : ∀ y ∈ us, y.oneCell' = true)
    (hn : vs.length + us.length ≤ 1000000000) (hB : B ≤ w.heap.size) :
    ∃ v' w', (Builtin.append_ #[t, t] ty #[v, x]).run P w = .ok v' w' ∧ w'.ownsRow B e 1 v' (vs ++ us).length (vs ++ us) ∧ w.grownBy w' v.ownBlock ∧ (v'.ownBlock = v.ownBlock ∨ v'.ownBlock = some w.heap.size) := by
  obtain ⟨i, hi, hz0, hz1, hz2⟩ := info_parts hi
  have hb : (vs.length + us.length) * bytes ≤ 1000000000 * 64 := Nat.mul_le_mul hn hby
  rcases hx with ⟨rfl, rfl⟩ | ⟨b, off, cap, rfl, hm, hc⟩
  · refine ⟨v, w, run_append_owned_none (P := P) (w := w) B t ty e i 1 ht hi v vs.length _ hI, by rw [List.append_nil]; exact hI, grownBy_refl _ _, .inl rfl⟩
  · obtain ⟨v', w', hr, h2, h3, _, h5⟩ := run_append_own_at (P := P) w B t ty e i z 1 bytes ht hi hz0 hz1 hz2 hz (by decide) v vs.length _ hI ⟨b, off, none⟩ us.length cap us
      (by simp) (fun j u hu => by rw [addr_add]; exact hc j u hu) h1 (by unfold maxLen; omega) (by omega) hB
    refine ⟨v', w', hr, ?_, h3, h5⟩
    rw [List.length_append]
    exact h2

/-- At the list of a region's operations. -/
theorem wpList_append_vals {P : Program} {w : World} {ops : Array Oper} {rest : List Oper} {o : Oper} {a : Act} {Q : Exit → Act → World → Prop} (hgd : o.guard = none) (s x : Operand) (t : TypeId)
    (ho : o.op = .call { callee := .builtin .append, args := #[s, x], argTypes := #[t, t] }) (B : Nat) (e : TypeId) (z : Value) (bytes : Nat) (ht : P.underlying t = some (.slice e))
    (hi : (P.info? e).map (fun i => (i.zero, i.size, i.bytes)) = some (some z, 1, bytes)) (hz : z.cells.size = 1) (hby : bytes ≤ 64) (v u : Value) (vs us : List Value) (hs : a.eval s = v) (hu : a.eval x = u) (hI : w.ownsRow B e 1 v vs.length vs) (hx : SrcV w u us) (h1 : ∀ y ∈ us, y.oneCell' = true)
    (hn : vs.length + us.length ≤ 1000000000) (hB : B ≤ w.heap.size)
    (h : ∀ v' w', w'.ownsRow B e 1 v' (vs ++ us).length (vs ++ us) → w.grownBy w' v.ownBlock → (v'.ownBlock = v.ownBlock ∨ v'.ownBlock = some w.heap.size) → wpList P ops Q rest (a.put o.dst v') w') :
    wpList P ops Q (o :: rest) a w := by
  refine wpList_plain hgd fun K' hK => ?_
  obtain ⟨v', w', hr, h2, h3, h5⟩ := run_append_vals (P := P) (w := w) t o.type B e z bytes ht hi hz hby v u vs us hI hx h1 hn hB
  unfold Oper.wp execOp
  simp only [ho, resolve, invoke, builtin, Sem.run_bind, Sem.run_pure, Result.andThen_ok, List.map_toArray, List.map_cons, List.map_nil, hs, hu, hr]
  exact hK _ _ (h v' w' h2 h3 h5)

theorem ints_srcS {w : World} {B : Nat} {e : TypeId} {v : Value} {xs : List Int} (h : Ints w B e v xs) : SrcV w v (xs.map (Value.int .i64)) :=
  ownsRow_src (by rw [List.length_map]; exact h)

theorem oneCell_intsS (xs : List Int) : ∀ y ∈ xs.map (Value.int .i64), y.oneCell' = true := fun y hy => by
  obtain ⟨x, _, rfl⟩ := List.mem_map.1 hy
  rfl

/-- The first elements, where the slice lies from its block's start on. -/
theorem Ints.takeS {w : World} {B n cap k : Nat} {a : Option Addr} {e : TypeId} {xs : List Int} (h : Ints w B e (.slice a n cap) xs) (hk : k ≤ xs.length) : Ints w B e (.slice a k cap) (xs.take k) := by
  have hl : (xs.take k).length = k := by rw [List.length_take]; omega
  obtain ⟨h1, ⟨hv, hn⟩ | ⟨g, c, cur, hv, hB, hg, hn, hm, hs, ht⟩⟩ := (show _ ∧ _ from h)
  · cases hv
    obtain rfl : k = 0 := by omega
    exact World.ownsRow_nil _ _ _ _
  · cases hv
    refine ⟨by simp, .inr ⟨g, cap, cur, by rw [hl], hB, hg, by omega, hm, hs, ?_⟩⟩
    rw [hl, Nat.mul_one, List.map_take]
    rw [Nat.mul_one] at ht
    rw [← ht, List.take_take]
    congr 1
    omega

/-- An append of ints that lie anywhere. -/
theorem wpList_append_srcS {P : Program} {w : World} {ops : Array Oper} {rest : List Oper} {o : Oper} {a : Act} {Q : Exit → Act → World → Prop} (hgd : o.guard = none) (s x : Operand) (t : TypeId)
    (ho : o.op = .call { callee := .builtin .append, args := #[s, x], argTypes := #[t, t] }) (B : Nat) (e : TypeId) (ht : P.underlying t = some (.slice e))
    (hi : (P.info? e).map (fun i => (i.zero, i.size, i.bytes)) = some (some (.int .i64 0), 1, 8)) (v u : Value) (xs ys : List Int) (hs : a.eval s = v) (hu : a.eval x = u) (hI : Ints w B e v xs) (hx : SrcV w u (ys.map (Value.int .i64)))
    (hn : xs.length + ys.length ≤ 1000000000) (hB : B ≤ w.heap.size)
    (h : ∀ v' w', Ints w' B e v' (xs ++ ys) → w.grownBy w' v.ownBlock → wpList P ops Q rest (a.put o.dst v') w') :
    wpList P ops Q (o :: rest) a w := by
  refine wpList_append_vals hgd s x t ho B e (.int .i64 0) 8 ht hi (by rfl) (by decide) v u (xs.map (Value.int .i64)) (ys.map (Value.int .i64)) hs hu (by rw [List.length_map]; exact hI) hx (oneCell_intsS ys) (by simpa using hn) hB (fun v' w' h1 h2 _ => h v' w' ?_ h2)
  rw [← List.map_append, List.length_map] at h1
  exact h1

theorem Ints.capS {w : World} {B n cap : Nat} {a : Option Addr} {e : TypeId} {xs : List Int} (h : Ints w B e (.slice a n cap) xs) : n = xs.length ∧ xs.length ≤ cap ∧ cap ≤ maxLen := by
  obtain ⟨h1, ⟨hv, hn⟩ | ⟨g, c, cur, hv, hB, hg, hn, hm, hs, ht⟩⟩ := (show _ ∧ _ from h)
  · cases hv
    exact ⟨hn.symm, by omega, by unfold maxLen; omega⟩
  · cases hv
    exact ⟨rfl, hn, hm⟩

theorem Ints.openS {w : World} {B : Nat} {e : TypeId} {v : Value} {xs : List Int} (h : Ints w B e v xs) : ∃ a0 cap, v = .slice a0 xs.length cap := by
  obtain ⟨a0, cap, _, hv, _⟩ := h.view
  exact ⟨a0, cap, hv⟩

theorem l1OwnS_any (v : Value) (ys : List Int) (B : Nat) (w : World) (h : Ints w B 3 v ys) (hn : ys.length ≤ 1000) :
    Calls Try.prog 63 #[v] w fun e w' => ∃ v', e = .returned v' ∧ Ints w' w.heap.size 3 v' ys ∧ Below w.heap.size w w' := by
  have H := Lib.hid h
  obtain ⟨a0, cap, rfl⟩ := h.openS
  have HB0 := Lib.hid (Ints.boxed w w.heap.size 3 [] (Nat.le_refl _) (by simp))
  clear h
  go_enter Try.func63, Try.ntmps63
  go_wp2_with (at_builtin; refine wpList_append_own_ints rfl _ _ 33 rfl (w.heap.size) 3 Try.underlying33 info_int _ [] rfl HB0.out B 3 _ ys rfl (H.out.later (by go_grown)) (by simp; omega) (by simp) ?_; intro v' w' hI hg; have hb' := HB0.out.below (show Below w.heap.size w _ from by go_grown) (by simp) hg)
  go_ret
  exact ⟨v', rfl, hI, hb'⟩
end Go.Proofs.Ytnldnjgnpdicnaa
