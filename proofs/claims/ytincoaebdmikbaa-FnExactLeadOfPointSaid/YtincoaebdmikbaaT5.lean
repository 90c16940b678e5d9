/- Times tables: what of the library the program asks: a clone, whether a number is in a list; the numbers of which something is told. -/
import Derived.Test.YtincoaebdmikbaaT4
import Derived.Lib.SliceRun
namespace Go.Proofs.Ytincoaebdmikbaa
open Go.RowKit
set_option linter.unusedVariables false

/-- 'append(out, src...)': integers of the call's own onto others. -/
theorem wpList_append_ints {P : Program} {wr : World} {ops : Array Oper} {rest : List Oper} {o : Oper} {a : Act} {Q : Exit → Act → World → Prop} (hgd : o.guard = none) (s x : Operand) (t : TypeId)
    (ho : o.op = .call { callee := .builtin .append, args := #[s, x], argTypes := #[t, t] }) (base : Nat) (e : TypeId) (ht : P.underlying t = some (.slice e))
    (hi : (P.info? e).map (fun i => (i.zero, i.size, i.bytes)) = some (some (.int .i64 0), 1, 8)) (v : Value) (xs : List Int) (hs : a.eval s = v) (hI : Ints wr base e v xs) (g n cap : Nat) (ys : List Int)
    (hx : a.eval x = .slice (some ⟨g, 0, none⟩) n cap) (hl : ys.length = n) (hc : ∀ i, i < n → wr.cell? ⟨g, i, none⟩ = some (.int .i64 (ys.getD i 0))) (hn : xs.length + n ≤ 1000000000) (hbase : base ≤ wr.heap.size)
    (h : ∀ v' w', Ints w' base e v' (xs ++ ys) → wr.grownBy w' v.ownBlock → wpList P ops Q rest (a.put o.dst v') w') :
    wpList P ops Q (o :: rest) a wr := by
  obtain ⟨i, hi, hz0, hz1, hz2⟩ := info_parts hi
  refine wpList_append_own _ hgd s x t ho base e i (.int .i64 0) 1 8 ht hi hz0 hz1 hz2 rfl (by decide) v xs.length _ hs hI ⟨g, 0, none⟩ n cap (ys.map (Value.int .i64)) hx (by simp [hl]) ?_ ?_ (by unfold maxLen; omega) (by omega) hbase ?_
  · intro j u hj
    have hadd : (⟨g, 0, none⟩ : Addr).add j = ⟨g, j, none⟩ := by unfold Addr.add; split <;> simp_all
    rw [List.getElem?_map] at hj
    have hjl : j < ys.length := by
      rcases Nat.lt_or_ge j ys.length with h | h
      · exact h
      · rw [List.getElem?_eq_none h] at hj; cases hj
    rw [List.getElem?_eq_getElem hjl] at hj
    cases hj
    rw [hadd, hc j (by omega)]
    simp [List.getD, List.getElem?_eq_getElem hjl]
  · intro u hu
    obtain ⟨z, _, rfl⟩ := List.mem_map.1 hu
    rfl
  · intro v' w' h1 h2 _
    refine h v' w' ?_ h2
    unfold Ints
    rw [List.length_append, List.map_append, hl]
    exact h1

/-- A call returns the integers xs in a slice of its own. -/
def GivesT (w : World) (xs : List Int) (e : Ending) (w' : World) : Prop := ∃ v, e = .returned v ∧ Ints w' w.heap.size 3 v xs ∧ Below w.heap.size w w'

set_option maxHeartbeats 400000 in
theorem clone_any (g n cap : Nat) (ys : List Int) (w : World) (hl : ys.length = n) (h1 : 1 ≤ n) (hn : n ≤ 1000) (hc : ∀ i, i < n → w.cell? ⟨g, i, none⟩ = some (.int .i64 (ys.getD i 0))) :
    Calls Try.prog 50 #[.slice (some ⟨g, 0, none⟩) n cap] w (GivesT w ys) := by
  have HC := Lib.hid hc
  have HL := Lib.hid hl
  clear hc hl
  have HI := Lib.hid (Ints.boxed w w.heap.size 3 [] (Nat.le_refl _) (by simp))
  have HB := Lib.hid ((Below.refl w.heap.size w).alloc (Nat.le_refl _) (.cells (([] : List Int).map (Value.int .i64)).toArray 3))
  have q : ∀ (w : World) (a : Option Addr) (n c n' c' : Nat), (binOp .eql 27 (.slice a n c) (.slice none n' c')).run Try.prog w = .ok (.bool a.isNone) w := fun w a n c n' c' => Lib.run_eql_slice_nil w _ _ a n c n' c' Try.underlying27
  go_enter Try.func50, Try.ntmps50
  go_wp2_with (at_builtin; (refine wpList_append_ints rfl _ _ 27 rfl w.heap.size 3 Try.underlying27 info_int _ [] rfl HI.out g n cap ys rfl HL.out (fun i hi => (World.cell?_alloc_lt _ _ _ (World.block_lt_of_cell? w _ (HC.out i hi))).trans (HC.out i hi)) (by simp; omega) (by simp) ?_; intro v' w' hI' hg'; have HI' := Lib.hid hI'; have HB' := Lib.hid (HI.out.below HB.out (by simp) hg'); clear hI' hg'))
  go_ret
  exact ⟨_, rfl, HI'.out, HB'.out⟩

set_option maxHeartbeats 400000 in
theorem index_yes (g n cap j : Nat) (ys : List Int) (x : Int) (w : World) (hl : ys.length = n) (hn : n ≤ 1000) (hc : ∀ i, i < n → w.cell? ⟨g, i, none⟩ = some (.int .i64 (ys.getD i 0))) (hj : j < n) (hx : ys.getD j 0 = x) :
    Calls Try.prog 70 #[.slice (some ⟨g, 0, none⟩) n cap, .int .i64 x] w fun e w' => (∃ r : Nat, e = .returned (.int .i64 r)) ∧ w = w' := by
  have HC := Lib.hid hc
  have HX := Lib.hid hx
  clear hc hl hx
  go_enter Try.func70, Try.ntmps70
  go_wp2
  go_loop [8] (fun i => ∃ k : Nat, k ≤ j ∧ i = .int .i64 k) (fun i => n - (intOf i).toNat)
  case atStart => exact ⟨0, by omega, rfl⟩
  case round =>
    obtain ⟨k, hk, rfl⟩ := hrel
    have cc := HC.out k (by omega)
    obtain ⟨y, hy⟩ : ∃ y, ys.getD k 0 = y := ⟨_, rfl⟩
    rw [hy] at cc
    by_cases he : x = y
    · subst he
      clear hy
      go_wp2
      go_ret
      exact ⟨⟨k, rfl⟩, rfl⟩
    · have hne : (x == y) = false := beq_eq_false_iff_ne.2 he
      have hkj : k < j := by
        rcases Nat.lt_or_ge k j with h | h
        · exact h
        · exfalso
          obtain rfl : k = j := by omega
          exact he (HX.out.symm.trans hy)
      clear hy he
      go_wp2
      go_round
      case rel => exact ⟨k + 1, by omega, by go_num⟩
      case measure => simp [intOf]; omega

set_option maxHeartbeats 400000 in
theorem index_no (g n cap : Nat) (ys : List Int) (x : Int) (w : World) (hl : ys.length = n) (hn : n ≤ 1000) (hc : ∀ i, i < n → w.cell? ⟨g, i, none⟩ = some (.int .i64 (ys.getD i 0))) (hx : ∀ j, j < n → ys.getD j 0 ≠ x) :
    Calls Try.prog 70 #[.slice (some ⟨g, 0, none⟩) n cap, .int .i64 x] w fun e w' => e = .returned (.int .i64 (-1)) ∧ w = w' := by
  have HC := Lib.hid hc
  have HX := Lib.hid hx
  clear hc hl hx
  go_enter Try.func70, Try.ntmps70
  go_wp2
  go_loop [8] (fun i => ∃ k : Nat, k ≤ n ∧ i = .int .i64 k) (fun i => n - (intOf i).toNat)
  case atStart => exact ⟨0, by omega, rfl⟩
  case round =>
    obtain ⟨k, hk, rfl⟩ := hrel
    by_cases hlt : k < n
    · have cc := HC.out k hlt
      obtain ⟨y, hy⟩ : ∃ y, ys.getD k 0 = y := ⟨_, rfl⟩
      rw [hy] at cc
      have hne : (x == y) = false := beq_eq_false_iff_ne.2 (fun e => HX.out k hlt (hy.trans e.symm))
      clear hy
      go_wp2
      go_round
      case rel => exact ⟨k + 1, by omega, by go_num⟩
      case measure => simp [intOf]; omega
    · obtain rfl : k = n := by omega
      go_wp2
      go_ret
      exact ⟨rfl, rfl⟩

set_option maxHeartbeats 400000 in
theorem contains_any (g n cap : Nat) (ys : List Int) (x : Int) (b : Bool) (w : World) (hl : ys.length = n) (hn : n ≤ 1000) (hc : ∀ i, i < n → w.cell? ⟨g, i, none⟩ = some (.int .i64 (ys.getD i 0))) (hb : ys.contains x = b) :
    Calls Try.prog 57 #[.slice (some ⟨g, 0, none⟩) n cap, .int .i64 x] w fun e w' => e = .returned (.bool b) ∧ w = w' := by
  cases b with
  | true =>
    have hm : x ∈ ys := by simpa using hb
    obtain ⟨j, hj, hx⟩ := List.getElem_of_mem hm
    have hx' : ys.getD j 0 = x := by simp [List.getD, List.getElem?_eq_getElem hj, hx]
    have HC := Lib.hid hc
    have HX := Lib.hid hx'
    have hj' : j < n := by omega
    have HL := Lib.hid hl
    clear hc hb hm hx hx' hl hj
    go_enter Try.func57, Try.ntmps57
    go_wp2_with (first | (go_at_call 70; (with_reducible refine (index_yes g n cap j ys x _ HL.out hn HC.out hj' HX.out).mono ?_); rintro e w1 ⟨⟨r, rfl⟩, rfl⟩))
    go_ret
    exact ⟨rfl, rfl⟩
  | false =>
    have hm : ¬ x ∈ ys := by simpa using hb
    have hx : ∀ j, j < n → ys.getD j 0 ≠ x := fun j hj e => hm (by rw [← e, List.getD, List.getElem?_eq_getElem (by omega)]; exact List.getElem_mem _)
    have HC := Lib.hid hc
    have HX := Lib.hid hx
    have HL := Lib.hid hl
    clear hc hb hm hx hl
    go_enter Try.func57, Try.ntmps57
    go_wp2_with (first | (go_at_call 70; (with_reducible refine (index_no g n cap ys x _ HL.out hn HC.out HX.out).mono ?_); rintro e w1 ⟨rfl, rfl⟩))
    go_ret
    exact ⟨rfl, rfl⟩

end Go.Proofs.Ytincoaebdmikbaa
