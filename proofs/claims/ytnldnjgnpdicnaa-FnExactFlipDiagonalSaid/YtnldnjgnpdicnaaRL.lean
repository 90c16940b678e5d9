/- The regions with both points of a chord. -/
import Derived.Test.YtnldnjgnpdicnaaRJ
namespace Go.Proofs.Ytnldnjgnpdicnaa
open Go.RowKit
set_option linter.unusedVariables false

set_option maxHeartbeats 400000 in
theorem indexR_yes (g n cap j : Nat) (ys : List Int) (x : Int) (w : World) (hl : ys.length = n) (hn : n ≤ 1000) (hc : ∀ i, i < n → w.cell? ⟨g, i, none⟩ = some (.int .i64 (ys.getD i 0))) (hj : j < n) (hx : ys.getD j 0 = x) :
    Calls Try.prog 151 #[.slice (some ⟨g, 0, none⟩) n cap, .int .i64 x] w fun e w' => (∃ r : Nat, e = .returned (.int .i64 r)) ∧ w = w' := by
  have HC := Lib.hid hc
  have HX := Lib.hid hx
  clear hc hl hx
  go_enter Try.func151, Try.ntmps151
  go_wp2
  go_loop [8] (fun i => ∃ k : Nat, k ≤ j ∧ i = .int .i64 k) (fun i => n - (intOf i).toNat)
  case atStart => exact ⟨0, by omega, rfl⟩
  case round =>
    obtain ⟨k, hk, rfl⟩ := hrel
    have cc := HC.out k (by omega)
    obtain ⟨y, hy⟩ : ∃ y, ys.getD k 0 = y := ⟨_, rfl⟩
    rw [hy] at cc
    by_cases he : x = y
    · subst he
      clear hy
      go_wp2
      go_ret
      exact ⟨⟨k, rfl⟩, rfl⟩
    · have hne : (x == y) = false := beq_eq_false_iff_ne.2 he
      have hkj : k < j := by
        rcases Nat.lt_or_ge k j with h | h
        · exact h
        · exfalso
          obtain rfl : k = j := by omega
          exact he (HX.out.symm.trans hy)
      clear hy he
      go_wp2
      go_round
      case rel => exact ⟨k + 1, by omega, by go_num⟩
      case measure => simp [intOf]; omega

set_option maxHeartbeats 400000 in
theorem indexR_no (g n cap : Nat) (ys : List Int) (x : Int) (w : World) (hl : ys.length = n) (hn : n ≤ 1000) (hc : ∀ i, i < n → w.cell? ⟨g, i, none⟩ = some (.int .i64 (ys.getD i 0))) (hx : ∀ j, j < n → ys.getD j 0 ≠ x) :
    Calls Try.prog 151 #[.slice (some ⟨g, 0, none⟩) n cap, .int .i64 x] w fun e w' => e = .returned (.int .i64 (-1)) ∧ w = w' := by
  have HC := Lib.hid hc
  have HX := Lib.hid hx
  clear hc hl hx
  go_enter Try.func151, Try.ntmps151
  go_wp2
  go_loop [8] (fun i => ∃ k : Nat, k ≤ n ∧ i = .int .i64 k) (fun i => n - (intOf i).toNat)
  case atStart => exact ⟨0, by omega, rfl⟩
  case round =>
    obtain ⟨k, hk, rfl⟩ := hrel
    by_cases hlt : k < n
    · have cc := HC.out k hlt
      obtain ⟨y, hy⟩ : ∃ y, ys.getD k 0 = y := ⟨_, rfl⟩
      rw [hy] at cc
      have hne : (x == y) = false := beq_eq_false_iff_ne.2 (fun e => HX.out k hlt (hy.trans e.symm))
      clear hy
      go_wp2
      go_round
      case rel => exact ⟨k + 1, by omega, by go_num⟩
      case measure => simp [intOf]; omega
    · obtain rfl : k = n := by omega
      go_wp2
      go_ret
      exact ⟨rfl, rfl⟩

set_option maxHeartbeats 400000 in
theorem containsR_any (g n cap : Nat) (ys : List Int) (x : Int) (b : Bool) (w : World) (hl : ys.length = n) (hn : n ≤ 1000) (hc : ∀ i, i < n → w.cell? ⟨g, i, none⟩ = some (.int .i64 (ys.getD i 0))) (hb : ys.contains x = b) :
    Calls Try.prog 140 #[.slice (some ⟨g, 0, none⟩) n cap, .int .i64 x] w fun e w' => e = .returned (.bool b) ∧ w = w' := by
  cases b with
  | true =>
    have hm : x ∈ ys := by simpa using hb
    obtain ⟨j, hj, hx⟩ := List.getElem_of_mem hm
    have hx' : ys.getD j 0 = x := by simp [List.getD, List.getElem?_eq_getElem hj, hx]
    have HC := Lib.hid hc
    have HX := Lib.hid hx'
    have hj' : j < n := by omega
    have HL := Lib.hid hl
    clear hc hb hm hx hx' hl hj
    go_enter Try.func140, Try.ntmps140
    go_wp2_with (first | (go_at_call 151; (with_reducible refine (indexR_yes g n cap j ys x _ HL.out hn HC.out hj' HX.out).mono ?_); rintro e w1 ⟨⟨r, rfl⟩, rfl⟩))
    go_ret
    exact ⟨rfl, rfl⟩
  | false =>
    have hm : ¬ x ∈ ys := by simpa using hb
    have hx : ∀ j, j < n → ys.getD j 0 ≠ x := fun j hj e => hm (by rw [← e, List.getD, List.getElem?_eq_getElem (by omega)]; exact List.getElem_mem _)
    have HC := Lib.hid hc
    have HX := Lib.hid hx
    have HL := Lib.hid hl
    clear hc hb hm hx hl
    go_enter Try.func140, Try.ntmps140
    go_wp2_with (first | (go_at_call 151; (with_reducible refine (indexR_no g n cap ys x _ HL.out hn HC.out HX.out).mono ?_); rintro e w1 ⟨rfl, rfl⟩))
    go_ret
    exact ⟨rfl, rfl⟩


theorem contains_i (v : Value) (ys : List Int) (x : Int) (t : Bool) (B : Nat) (e : TypeId) (w : World) (h : Ints w B e v ys) (h0 : 0 < ys.length) (hn : ys.length ≤ 1000) (ht : ys.contains x = t) :
    Calls Try.prog 140 #[v, .int .i64 x] w fun e' w' => e' = .returned (.bool t) ∧ w = w' := by
  obtain ⟨a0, cap, g, rfl, ha, _, _, _, hc, _⟩ := h.view
  obtain rfl := ha h0
  exact containsR_any g _ cap ys x t w rfl hn hc ht

set_option maxHeartbeats 1000000 in
theorem bothFn (k gr gc : Nat) (ao : Option Addr) (capo : Nat) (L : List (List Int)) (vs : List Value) (x y : Int) (B T : Nat) (b : Bool) (w : World) (hR : RowsAt 33 3 w B T (.slice ao L.length capo) vs L) (hpos : ∀ i, i < L.length → 0 < (L.getD i []).length ∧ (L.getD i []).length ≤ 60) (hk : k < L.length)
    (hcr : w.cell? ⟨gr, 0, none⟩ = some (.slice ao L.length capo)) (hcx : w.cell? ⟨gc, 0, none⟩ = some (.int .i64 x)) (hcy : w.cell? ⟨gc, 1, none⟩ = some (.int .i64 y)) (hb : bothR (x, y) (L.getD k []) = b) :
    Calls Try.prog 139 #[.int .i64 (k : Int), .pointer (some ⟨gr, 0, none⟩), .pointer (some ⟨gc, 0, none⟩)] w fun e w' => e = .returned (.bool b) ∧ Below w.heap.size w w' := by
  obtain ⟨a1, c1, g, hv, ha1, _, hc1, _⟩ := hR.view
  obtain ⟨rfl, _, rfl⟩ : ao = a1 ∧ L.length = L.length ∧ capo = c1 := by simpa using hv
  obtain rfl := ha1 (by omega)
  have e0 := hc1 k hk
  have hrow := hR.rows k hk
  obtain ⟨hp1, hp2⟩ := hpos k hk
  obtain ⟨ys, hys⟩ : ∃ ys, L.getD k [] = ys := ⟨_, rfl⟩
  rw [hys] at hrow hp1 hp2 hb
  obtain ⟨rv, hrv⟩ : ∃ rv, vs.getD k (Value.slice none 0 0) = rv := ⟨_, rfl⟩
  rw [hrv] at hrow e0
  obtain ⟨a2, c2, hform⟩ := hrow.1.openedR
  subst hform
  have HROW := Lib.hid hrow.1
  obtain ⟨s, hs⟩ : ∃ s, ys.contains x = s := ⟨_, rfl⟩
  obtain ⟨t, ht⟩ : ∃ t, ys.contains y = t := ⟨_, rfl⟩
  have hb2 : (s && t) = b := by rw [← hb]; unfold bothR; simp only; rw [hs, ht]
  subst hb2
  have HSX := Lib.hid hs
  have HTY := Lib.hid ht
  have k1 : 0 ≤ (k : Int) := by omega
  have k2 : (k : Int) < (L.length : Int) := by omega
  clear hR hpos hc1 hrow hys hrv hs ht hb ha1 hv
  go_enter Try.func139, Try.ntmps139
  cases s <;> cases t
  all_goals
    go_wp2
    go_quiet ((go_at_call 140; (first | (with_reducible exact quietP (contains_i _ ys x _ _ _ _ (HROW.out.drewN _) hp1 (by omega) HSX.out)) | (with_reducible exact quietP (contains_i _ ys y _ _ _ _ (HROW.out.drewN _) hp1 (by omega) HTY.out)))))
    go_wp2
    go_ret
    exact ⟨rfl, bdn (Below.refl _ _) _⟩

set_option maxHeartbeats 1000000 in
theorem where_both (p : Nat) (gr gc : Nat) (ao : Option Addr) (capo : Nat) (L : List (List Int)) (vs : List Value) (x y : Int) (B T : Nat) (c : Nat → Bool) (w : World) (h : p ≤ 1000) (hp : p = L.length) (hR : RowsAt 33 3 w B T (.slice ao L.length capo) vs L) (hT : T ≤ w.heap.size) (hpos : ∀ i, i < L.length → 0 < (L.getD i []).length ∧ (L.getD i []).length ≤ 60) (hcr : w.cell? ⟨gr, 0, none⟩ = some (.slice ao L.length capo)) (hcx : w.cell? ⟨gc, 0, none⟩ = some (.int .i64 x)) (hcy : w.cell? ⟨gc, 1, none⟩ = some (.int .i64 y)) (hcd : ∀ k, k < p → bothR (x, y) (L.getD k []) = c k) :
    Calls Try.prog 117 #[.int .i64 p, .func (.func 139) #[] #[.pointer (some ⟨gr, 0, none⟩), .pointer (some ⟨gc, 0, none⟩)]] w (GivesT w (selT c p)) := by
  have HCD := Lib.hid hcd
  have HRR := Lib.hid hR
  have HPO := Lib.hid hpos
  have HC1 := Lib.hid hcr
  have HC2 := Lib.hid hcx
  have HC3 := Lib.hid hcy
  have HPL := Lib.hid hp
  clear hcd hR hpos hcr hcx hcy hp
  go_enter Try.func117, Try.ntmps117
  go_wp2
  go_loopw [5, 8] (fun u i wr => ∃ k : Nat, k ≤ p ∧ i = .int .i64 k ∧ Ints wr w.heap.size 3 u (selT c k) ∧ Below w.heap.size w wr) (fun _ i _ => p - (intOf i).toNat)
  case atStart => exact ⟨0, by omega, rfl, World.ownsRow_nil _ _ _ _, Below.refl _ _⟩
  case round =>
    obtain ⟨k, hk, rfl, hI, hB⟩ := hrel
    have HI := Lib.hid hI
    have hz := hB.size
    clear hI
    by_cases hlt : k < p
    · have hlen := selT_length c k
      have HR2 := Lib.hid (HRR.out.keep (belowSame hB hT))
      have HD1 := Lib.hid (cellB hB HC1.out)
      have HD2 := Lib.hid (cellB hB HC2.out)
      have HD3 := Lib.hid (cellB hB HC3.out)
      cases hcb : c k with
      | true =>
        have HS := Lib.hid (selT_yes c k hcb)
        have HCB := Lib.hid hcb
        clear hcb
        go_wp2_with (first
          | (go_at_call 139; (refine (bothFn k gr gc ao capo L vs x y B T true _ HR2.out HPO.out (by have := HPL.out; omega) HD1.out HD2.out HD3.out ((HCD.out k hlt).trans HCB.out)).mono ?_); rintro e w1 ⟨rfl, hb1⟩; have HI1 := Lib.hid (HI.out.later hb1); have hB1 := hB.trans (hb1.mono hz); have hz1 := hB1.size)
          | (at_builtin; refine wpList_append_int rfl _ _ 33 rfl (w.heap.size) 3 Try.underlying33 info_int _ _ rfl HI1.out (k : Int) rfl (by omega) (by omega) ?_; intro v' w' hI' hg'; have hB' := HI1.out.below hB1 hz1 hg'; rw [HS.out] at hI'; have HI' := Lib.hid hI'; clear hI'))
        go_roundw
        case rel => exact ⟨k + 1, by omega, by go_num, HI'.out, hB'⟩
        case measure => simp [intOf]; omega
      | false =>
        have HS := Lib.hid (selT_no c k hcb)
        have HCB := Lib.hid hcb
        clear hcb
        go_wp2_with (first
          | (go_at_call 139; (refine (bothFn k gr gc ao capo L vs x y B T false _ HR2.out HPO.out (by have := HPL.out; omega) HD1.out HD2.out HD3.out ((HCD.out k hlt).trans HCB.out)).mono ?_); rintro e w1 ⟨rfl, hb1⟩; have HI1 := Lib.hid (HI.out.later hb1); have hB1 := hB.trans (hb1.mono hz)))
        go_roundw
        case rel => exact ⟨k + 1, by omega, by go_num, by rw [← HS.out]; exact HI1.out, hB1⟩
        case measure => simp [intOf]; omega
    · obtain rfl : k = p := by omega
      go_wp2
      go_ret
      exact ⟨_, rfl, HI.out, hB⟩


set_option maxHeartbeats 1000000 in
theorem withBoth_any (ao : Option Addr) (capo : Nat) (L : List (List Int)) (x y : Int) (B T : Nat) (w : World) (hR : RowsIn 33 3 w B T (.slice ao L.length capo) L) (hT : T ≤ w.heap.size) (hpos : ∀ i, i < L.length → 0 < (L.getD i []).length ∧ (L.getD i []).length ≤ 60) (hn : L.length ≤ 1000) :
    Calls Try.prog 106 #[.slice ao L.length capo, .agg #[.int .i64 x, .int .i64 y]] w (GivesT w (selT (fun k => bothR (x, y) (L.getD k [])) L.length)) := by
  obtain ⟨vs, hR⟩ := hR
  have HR := Lib.hid hR
  clear hR
  go_enter Try.func106, Try.ntmps106
  go_wp2_with (first | (go_at_call 117; (with_reducible refine (where_both L.length w.heap.size (w.heap.size + 1) ao capo L vs x y B T (fun k => bothR (x, y) (L.getD k [])) _ hn rfl (HR.out.keep (belowSame (by go_grown) hT)) (Nat.le_trans hT (by simp; omega)) hpos (by go_simp) (by go_simp) (by go_simp) (fun k _ => rfl)).mono ?_); rintro e w1 ⟨v, rfl, hI, hb1⟩))
  go_ret
  exact ⟨_, rfl, hI.mono (by simp; omega), Below.trans (by go_grown) (hb1.mono (by first | omega | (simp; done) | (simp; omega)))⟩

theorem regs_pos (cs : List (Int × Int)) : ∀ L : List (List Int), (∀ c ∈ cs, c.1 < c.2) → (∀ R ∈ L, 0 < R.length) → ∀ R ∈ regsF L cs, 0 < R.length := by
  induction cs with
  | nil => intro L _ h; exact h
  | cons c cs ih =>
    intro L hc h
    rw [regsF_cons]
    refine ih _ (fun d hd => hc d (by simp [hd])) fun R hR => ?_
    obtain ⟨S, hS, hRS⟩ := List.mem_flatMap.1 hR
    have hlt := hc c (by simp)
    unfold splitR at hRS
    split at hRS
    · rename_i hb
      obtain ⟨h1, h2⟩ := (bothR_iff _ _).1 hb
      simp at hRS
      rcases hRS with rfl | rfl
      · exact List.length_pos_of_mem (List.mem_filter.2 ⟨h1, by simp [inS]; omega⟩)
      · exact List.length_pos_of_mem (List.mem_filter.2 ⟨h1, by simp [outS]⟩)
    · simp at hRS
      subst hRS
      exact h _ hS

theorem regL_rows {n : Nat} {xs : List (Int × Int)} (hg : goodC n xs) (hpl : allP xs xs.length = []) : ∀ i, i < (regL n xs).length → 0 < ((regL n xs).getD i []).length ∧ ((regL n xs).getD i []).length ≤ 60 := by
  intro i hi
  have hp := hg.1
  have hw := selT_length (fun _ => true) n
  have hm := (regL_perm n xs).mem_iff.1 (getD_mem (regL n xs) i [] hi)
  refine ⟨regs_pos xs _ (plane_of_good hg hpl).1 (fun R hR => ?_) _ hm, regs_lens (n := n) (xs := xs) xs _ (fun R hR => ?_) _ hm⟩
  · simp at hR
    subst hR
    exact List.length_pos_of_mem (whole_mem n 0 (by omega) (by omega))
  · simp at hR
    subst hR
    omega
end Go.Proofs.Ytnldnjgnpdicnaa
