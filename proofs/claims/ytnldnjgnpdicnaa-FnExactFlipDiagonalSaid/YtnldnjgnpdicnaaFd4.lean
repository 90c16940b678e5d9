/- A diagonal is flipped: the program's corners, and a set copied. -/
import Derived.Test.YtnldnjgnpdicnaaZE
import Derived.Test.YtnldnjgnpdicnaaRL
import Derived.Test.YtnldnjgnpdicnaaBA
import Derived.Test.YtnldnjgnpdicnaaKC
import Derived.Maps.AppendAt
namespace Go.Proofs.Ytnldnjgnpdicnaa
open Go.RowKit
set_option linter.unusedVariables false

set_option maxHeartbeats 600000 in
theorem cloneC_any (a : Addr) (cap : Nat) (xs : List (Int × Int)) (w : World) (hx : SrcP w (.slice (some a) xs.length cap) xs) (hl : xs.length ≤ 1000) :
    Calls Try.prog 109 #[.slice (some a) xs.length cap] w fun e w' => ∃ v, e = .returned v ∧ Pairs w' w.heap.size 52 v xs ∧ Below w.heap.size w w' := by
  have q : ∀ (w : World) (a : Option Addr) (n c n' c' : Nat), (binOp .eql 24 (.slice a n c) (.slice none n' c')).run Try.prog w = .ok (.bool a.isNone) w := fun w a n c n' c' => Lib.run_eql_slice_nil w _ _ a n c n' c' Try.underlying24
  have HI := Lib.hid (Pairs.boxed w w.heap.size 52 [] (Nat.le_refl _) (by simp))
  have HB := Lib.hid ((Below.refl w.heap.size w).alloc (Nat.le_refl _) (.cells ((flatP []).map (Value.int .i64)).toArray 52))
  have HX := Lib.hid (hx.later HB.out)
  have hl2 : ([] : List (Int × Int)).length + xs.length ≤ 1000000000 := by simp; omega
  clear hx
  go_enter Try.func109, Try.ntmps109
  go_wp2_with (at_builtin; (refine wpList_append_pairs rfl _ _ 24 rfl w.heap.size 52 Try.underlying24 info_chord _ _ [] xs rfl rfl HI.out HX.out hl2 HB.out.size ?_); intro v' w' hI' hg' _; (have HI' := Lib.hid hI'); (have HB' := Lib.hid (Pairs.below HI.out HB.out HB.out.size hg')); clear hI' hg')
  go_ret
  exact ⟨_, rfl, HI'.out, HB'.out⟩

set_option maxHeartbeats 400000 in
theorem cornerFn (p x y : Int) (g : Nat) (b : Bool) (w : World) (h0 : w.cell? ⟨g, 0, none⟩ = some (.int .i64 x)) (h1 : w.cell? ⟨g, 1, none⟩ = some (.int .i64 y)) (hb : decide (p ≠ x ∧ p ≠ y) = b) :
    Calls Try.prog 107 #[.int .i64 p, .pointer (some ⟨g, 0, none⟩)] w fun e w' => e = .returned (.bool b) ∧ Below w.heap.size w w' := by
  subst hb
  by_cases hx : p = x
  · subst hx
    rw [decide_eq_false (fun h => h.1 rfl)]
    go_enter Try.func107, Try.ntmps107
    go_wp2
    go_ret
    exact ⟨rfl, by first | exact Below.refl _ _ | go_grown⟩
  · by_cases hy : p = y
    · subst hy
      rw [decide_eq_false (fun h => h.2 rfl)]
      go_enter Try.func107, Try.ntmps107
      go_wp2
      go_ret
      exact ⟨rfl, by first | exact Below.refl _ _ | go_grown⟩
    · rw [decide_eq_true ⟨hx, hy⟩]
      have e1 : (p != x) = true := by simpa using hx
      have e2 : (p != y) = true := by simpa using hy
      go_enter Try.func107, Try.ntmps107
      go_wp2
      go_ret
      exact ⟨rfl, by first | exact Below.refl _ _ | go_grown⟩

set_option maxHeartbeats 1000000 in
theorem cornerIdx (v : Value) (ys : List Int) (x y : Int) (g z : Nat) (B : Nat) (e : TypeId) (w : World) (h : Ints w B e v ys) (hn : ys.length ≤ 1000) (h0 : w.cell? ⟨g, 0, none⟩ = some (.int .i64 x)) (h1 : w.cell? ⟨g, 1, none⟩ = some (.int .i64 y))
    (hz : z < ys.length) (hy : decide (ys.getD z 0 ≠ x ∧ ys.getD z 0 ≠ y) = true) (hb : ∀ k, k < z → decide (ys.getD k 0 ≠ x ∧ ys.getD k 0 ≠ y) = false) :
    Calls Try.prog 108 #[v, .func (.func 107) #[] #[.pointer (some ⟨g, 0, none⟩)]] w fun e w' => e = .returned (.int .i64 (z : Int)) ∧ Below w.heap.size w w' := by
  obtain ⟨a1, c1, g1, rfl, ha1, _, _, _, hc1, _⟩ := h.view
  obtain rfl := ha1 (by omega)
  have X := Lib.hid hc1
  have HY := Lib.hid hy
  have HN := Lib.hid hb
  have H0 := Lib.hid h0
  have H1 := Lib.hid h1
  clear h ha1 hc1 hy hb h0 h1
  go_enter Try.func108, Try.ntmps108
  go_wp2
  go_loopw [8] (fun i wr => ∃ k : Nat, k ≤ z ∧ i = .int .i64 (k : Int) ∧ Below w.heap.size w wr) (fun i _ => z - (intOf i).toNat)
  case atStart => exact ⟨0, by omega, rfl, Below.refl _ _⟩
  case round =>
    obtain ⟨k, hk, rfl, hB⟩ := hrel
    have hz2 := hB.size
    have cx := cellB hB (X.out k (by omega))
    have d0 := Lib.hid (cellB hB H0.out)
    have d1 := Lib.hid (cellB hB H1.out)
    have hlt : (k : Int) < (ys.length : Int) := by omega
    obtain ⟨p, hp⟩ : ∃ p, ys.getD k 0 = p := ⟨_, rfl⟩
    rw [hp] at cx
    by_cases hkz : k = z
    · subst hkz
      have hy := HY.out
      rw [hp] at hy
      have HP := Lib.hid hy
      clear hy hp
      go_wp2_with (first | (go_at_call 107; (refine (cornerFn p x y g true _ d0.out d1.out HP.out).mono ?_); rintro e w1 ⟨rfl, hb1⟩))
      go_ret
      exact ⟨rfl, hB.trans (hb1.mono hz2)⟩
    · have hy := HN.out k (by omega)
      rw [hp] at hy
      have HP := Lib.hid hy
      clear hy hp
      go_wp2_with (first | (go_at_call 107; (refine (cornerFn p x y g false _ d0.out d1.out HP.out).mono ?_); rintro e w1 ⟨rfl, hb1⟩; have hB1 := hB.trans (hb1.mono hz2)))
      go_roundw
      case rel => exact ⟨k + 1, by omega, by go_num, hB1⟩
      case measure => simp [intOf]; omega

/-- One integer appended, at one operation of a drawn region. -/
theorem wp_append_int {P : Program} {wr : World} {o : Oper} {a : Act} {K : Act → World → Prop} {Q : Exit → Act → World → Prop} (s x : Operand) (t : TypeId)
    (ho : o.op = .call { callee := .builtin .append, args := #[s, x], argTypes := #[t, t] }) (base : Nat) (e : TypeId) (ht : P.underlying t = some (.slice e))
    (hi : (P.info? e).map (fun i => (i.zero, i.size, i.bytes)) = some (some (.int .i64 0), 1, 8)) (v : Value) (xs : List Int) (hs : a.eval s = v) (hI : Ints wr base e v xs) (y : Int)
    (hx : a.eval x = .slice (some ⟨wr.heap.size, 0, none⟩) 1 1) (hn : xs.length < 1000000000) (hbase : base ≤ wr.heap.size)
    (h : ∀ v' w', Ints w' base e v' (xs ++ [y]) → wr.grownBy w' v.ownBlock → K (a.put o.dst v') w') :
    o.wp P a (wr.alloc (.cells #[.int .i64 y] e)) K Q := by
  obtain ⟨i, hi, hz0, hz1, hz2⟩ := info_parts hi
  obtain ⟨v', w', hr, h2, h3, _, _⟩ := run_append_own_at (P := P) (wr.alloc (.cells #[.int .i64 y] e)) base t o.type e i (.int .i64 0) 1 8 ht hi hz0 hz1 hz2 rfl (by decide) v xs.length _ (World.ownsRow.alloc hI _) ⟨wr.heap.size, 0, none⟩ 1 1 [.int .i64 y] rfl
    (cell_one_new _ _ _) (by intro u hu; simp at hu; subst hu; rfl) (by unfold maxLen; omega) (by omega) (by simp; omega)
  have h1 : Ints w' base e v' (xs ++ [y]) := by
    have e1 : (xs ++ [y]).length = xs.length + 1 := by simp
    unfold Ints
    rw [e1, List.map_append]
    exact h2
  unfold Oper.wp execOp
  simp only [ho, resolve, invoke, builtin, Sem.run_bind, Sem.run_pure, Result.andThen_ok, List.map_toArray, List.map_cons, List.map_nil, hs, hx, hr]
  exact h v' w' h1 (grownBy_trans (World.grownBy_alloc _ _ _) h3)

/-- The corner, told by its place. -/
theorem crn_place {c : Int × Int} {S : List Int} (h : ∃ p ∈ S, p ≠ c.1 ∧ p ≠ c.2) : ∃ z : Nat, z < S.length ∧ crnR c S = S.getD z 0 ∧ decide (S.getD z 0 ≠ c.1 ∧ S.getD z 0 ≠ c.2) = true ∧ ∀ k, k < z → decide (S.getD k 0 ≠ c.1 ∧ S.getD k 0 ≠ c.2) = false := by
  obtain ⟨p, hp, h2⟩ := h
  have hz : S.findIdx (fun p => decide (p ≠ c.1 ∧ p ≠ c.2)) < S.length := List.findIdx_lt_length_of_exists ⟨p, hp, decide_eq_true h2⟩
  refine ⟨_, hz, rfl, ?_, fun k hk => ?_⟩
  · rw [List.getD_eq_getElem?_getD, List.getElem?_eq_getElem hz]
    exact List.findIdx_getElem (w := hz)
  · have := List.not_of_lt_findIdx hk
    rw [List.getD_eq_getElem?_getD, List.getElem?_eq_getElem (by omega)]
    simpa using this
end Go.Proofs.Ytnldnjgnpdicnaa
