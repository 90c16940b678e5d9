/- Leads of tables: by the program and by the model. -/
import Derived.Test.YtincoaebdmikbabT6
import Derived.Test.YtincoaebdmikbabTE
import Derived.Test.YtincoaebdmikbabB7
import Derived.WalkMore
import Derived.ScopeJumps
namespace Go.Proofs.Ytincoaebdmikbab
open Go.RowKit
set_option linter.unusedVariables false

/-- sixty zeros -/
theorem zeros60 (p f q : Nat) : ((#[.int .i64 0, .int .i64 0, .int .i64 0, .int .i64 0, .int .i64 0, .int .i64 0, .int .i64 0, .int .i64 0, .int .i64 0, .int .i64 0, .int .i64 0, .int .i64 0, .int .i64 0, .int .i64 0, .int .i64 0, .int .i64 0, .int .i64 0, .int .i64 0, .int .i64 0, .int .i64 0, .int .i64 0, .int .i64 0, .int .i64 0, .int .i64 0, .int .i64 0, .int .i64 0, .int .i64 0, .int .i64 0, .int .i64 0, .int .i64 0, .int .i64 0, .int .i64 0, .int .i64 0, .int .i64 0, .int .i64 0, .int .i64 0, .int .i64 0, .int .i64 0, .int .i64 0, .int .i64 0, .int .i64 0, .int .i64 0, .int .i64 0, .int .i64 0, .int .i64 0, .int .i64 0, .int .i64 0, .int .i64 0, .int .i64 0, .int .i64 0, .int .i64 0, .int .i64 0, .int .i64 0, .int .i64 0, .int .i64 0, .int .i64 0, .int .i64 0, .int .i64 0, .int .i64 0, .int .i64 0] : Array Value)) = intCells (comesL p f q 0 60) := by rw [comesL_zero]; rfl

set_option maxHeartbeats 2000000 in
set_option maxRecDepth 100000 in
theorem leadOf_any (p f q n l : Nat) (w : World) (h : 3 ≤ p ∧ p ≤ 60) (hf : f < p) (hq : q < p) (hn : LeadIs p f q n) (hl : comesT p f q n (itrT p f q n) = l + 1) :
    Calls Try.prog 34 #[.agg (rowV p f p), .int .i64 q] w fun e w' => e = .returned (.tuple #[.int .i64 (l : Int), .int .i64 ((n : Int) - (l : Int))]) ∧ Below w.heap.size w w' := by
  have HN := Lib.hid hn
  have hln : l + 1 ≤ n := by rw [← hl]; exact comesT_le p f q n _
  have HL := Lib.hid hl
  have hnp := lead_le (by omega) hq hn
  have hn1 := lead_pos hn
  have hp0 : 0 < p := by omega
  have hz60 := zeros60 p f q
  have HZ := Lib.hid hz60
  clear hn hz60 hl
  go_enter Try.func34, Try.ntmps34
  go_wp2
  refine wp_scope_jumps 0 (fun a' w' => ∃ (k : Nat) (u8 u9 u10 u11 u12 u13 u14 u15 u16 u17 u18 u19 u20 u21 u22 u23 u24 u25 u26 u27 u28 : Value), a' = { tmps := #[.agg (rowV p f p), .int .i64 (itrT p f q k : Nat), .pointer (some ⟨w.heap.size, 0, none⟩), undef, .int .i64 0, .int .i64 0, .pointer (some ⟨w.heap.size + 1, 0, none⟩), .int .i64 k, u8, u9, u10, u11, u12, u13, u14, u15, u16, u17, u18, u19, u20, u21, u22, u23, u24, u25, u26, u27, u28], defers := [] } ∧ 1 ≤ k ∧ k ≤ n ∧ w' = (w.alloc (.cells (rowV p f p) 45)).alloc (.cells (intCells (comesL p f q k 60)) 44)) (fun a' _ => (n - intOf (a'.tmps.getD 7 undef)).toNat) rfl ?_ ?_
  · go_wp2
    rw [HZ.out]
    go_step3
    have hx : q < p := hq
    obtain ⟨y, hy⟩ : ∃ y, q * f % p = y := ⟨_, rfl⟩
    have HY := Lib.hid hy
    have cR : ∀ c, ((w.alloc (.cells (rowV p f p) 45)).alloc (.cells c 44)).cell? ⟨w.heap.size, q, none⟩ = some (.int .i64 (y : Int)) := fun c => by
      rw [← HY.out]
      exact (cell_of_row _ _ _ _ _ (0, 0) (heap_alloc2_old w _ _)).trans (rowV_get p f p q hx)
    have cA : ((w.alloc (.cells (rowV p f p) 45)).alloc (.cells (intCells (comesL p f q 0 60)) 44)).cell? ⟨w.heap.size + 1, q, none⟩ = some (.int .i64 ((comesT p f q 0 q : Nat) : Int)) := by
      rw [← comesL_get p f q 0 60 q (by omega)]
      exact (cell_of_row _ _ _ _ _ (0, 0) (heap_alloc2_new w _ _)).trans (intCells_get _ q (by rw [comesL_length]; omega))
    rw [comesT_zero] at cA
    have cA : ((w.alloc (.cells (rowV p f p) 45)).alloc (.cells (intCells (comesL p f q 0 60)) 44)).cell? ⟨w.heap.size + 1, q, none⟩ = some (.int .i64 0) := cA
    have HS := Lib.hid (show (intCells (comesL p f q 0 60)).setIfInBounds q (.int .i64 1) = intCells (comesL p f q 1 60) by
      rw [intCells_set]
      have := comesL_set p f q 0 60 (comesT_zero p f q _)
      rw [← this]
      rfl)
    have HI := Lib.hid (show itrT p f q 1 = y by rw [← hy]; rfl)
    clear hy
    go_wp2
    go_step3
    refine ⟨rfl, 1, _, _, _, _, _, _, _, _, _, _, _, _, _, _, _, _, _, _, _, _, _, by rw [HI.out]; rfl, by omega, by omega, ?_⟩
    rw [← HS.out]
  · rintro a' w' ⟨k, u8, u9, u10, u11, u12, u13, u14, u15, u16, u17, u18, u19, u20, u21, u22, u23, u24, u25, u26, u27, u28, rfl, hk1, hk2, rfl⟩
    obtain ⟨x, hxq⟩ : ∃ x, x = itrT p f q k := ⟨_, rfl⟩
    have hx : x < p := by rw [hxq]; exact itrT_lt p f q k hp0 hq
    obtain ⟨y, hy⟩ : ∃ y, x * f % p = y := ⟨_, rfl⟩
    have HY := Lib.hid hy
    have cR : ∀ c, ((w.alloc (.cells (rowV p f p) 45)).alloc (.cells c 44)).cell? ⟨w.heap.size, x, none⟩ = some (.int .i64 (y : Int)) := fun c => by
      rw [← HY.out]
      exact (cell_of_row _ _ _ _ _ (0, 0) (heap_alloc2_old w _ _)).trans (rowV_get p f p x hx)
    have cA : ((w.alloc (.cells (rowV p f p) 45)).alloc (.cells (intCells (comesL p f q k 60)) 44)).cell? ⟨w.heap.size + 1, x, none⟩ = some (.int .i64 ((comesT p f q k x : Nat) : Int)) := by
      rw [← comesL_get p f q k 60 x (by omega)]
      exact (cell_of_row _ _ _ _ _ (0, 0) (heap_alloc2_new w _ _)).trans (intCells_get _ x (by rw [comesL_length]; omega))
    have HI := Lib.hid (show itrT p f q (k + 1) = y by rw [← hy, hxq]; rfl)
    obtain ⟨c, hc⟩ : ∃ c, c = comesT p f q k x := ⟨_, rfl⟩
    rw [← hc] at cA
    have hck : c ≤ k := by rw [hc]; exact comesT_le p f q k x
    by_cases hlt : k < n
    · have hc0 : comesT p f q k (itrT p f q k) = 0 := HN.out.2 k hlt
      obtain rfl : c = 0 := by rw [hc, hxq, hc0]
      have HS := Lib.hid (show (intCells (comesL p f q k 60)).setIfInBounds x (.int .i64 ((k : Int) + 1)) = intCells (comesL p f q (k + 1) 60) by
        rw [intCells_set, ← comesL_set p f q k 60 hc0, hxq])
      have HX := Lib.hid hxq
      clear hy hc hc0
      rw [← hxq]
      clear hxq
      go_wp2
      go_step3
      refine ⟨rfl, ⟨k + 1, _, _, _, _, _, _, _, _, _, _, _, _, _, _, _, _, _, _, _, _, _, by rw [HI.out, HX.out]; rfl, by omega, by omega, ?_⟩, ?_⟩
      · rw [← HS.out]
      · simp [intOf]; omega
    · obtain rfl : k = n := by omega
      obtain rfl : c = l + 1 := by rw [hc, hxq, HL.out]
      have e1 : ((l : Int) + 1 == 0) = false := beq_eq_false_iff_ne.2 (by omega)
      rw [show ((l + 1 : Nat) : Int) = (l : Int) + 1 by omega] at cA
      have HX := Lib.hid hxq
      clear hy hc
      rw [← hxq]
      clear hxq
      go_wp2
      simp only [Exit.jump]
      go_ret2
      exact ⟨rfl, by go_grown⟩

set_option maxHeartbeats 2000000 in
theorem taLead_any (p f q n l : Nat) (w : World) (h : 3 ≤ p ∧ p ≤ 60) (hf : f < p) (hq : q < p) (hn : LeadIs p f q n) (hl : comesT p f q n (itrT p f q n) = l + 1) :
    Calls Try.prog 30 #[.int .i64 p, .int .i64 f, .int .i64 q] w fun e w' => ∃ v, e = .returned (.tuple #[v, .int .i64 (l : Int)]) ∧ Ints w' w.heap.size 3 v (pathT p f q n) ∧ Below w.heap.size w w' := by
  have HN := Lib.hid hn
  have hln : l + 1 ≤ n := by rw [← hl]; exact comesT_le p f q n _
  have HL := Lib.hid hl
  have hnp := lead_le (by omega) hq hn
  have hp0 : 0 < p := by omega
  have hmk := make_ints (P := Try.prog) Try.underlying40 info_int p (by omega)
  clear hn hl
  have HI0 := Lib.hid (Ints.made w w.heap.size 3 p (Nat.le_refl _) (by omega)).inn
  have HB0 := Lib.hid ((Below.refl w.heap.size w).alloc (Nat.le_refl _) (.cells (zeroInts p) 3))
  have HZ := Lib.hid (comesL_zero p f q p)
  go_enter Try.func30, Try.ntmps30
  go_wp2
  clear hmk
  go_loopw [2, 9] (fun u v wr => ∃ k : Nat, k ≤ n ∧ u = .int .i64 (itrT p f q k : Nat) ∧ IntsIn 3 wr w.heap.size (w.heap.size + 1) (.slice (some ⟨w.heap.size, 0, none⟩) p p) (comesL p f q k p) ∧ Ints wr (w.heap.size + 1) 3 v (pathT p f q k) ∧ Below w.heap.size w wr ∧ w.heap.size < wr.heap.size) (fun _ v _ => match v with | .slice _ m _ => n - m | _ => 0)
  case atStart => exact ⟨0, by omega, rfl, by rw [HZ.out]; have := HI0.out; rw [World.size_alloc] at this; exact this, World.ownsRow_nil _ _ _ _, HB0.out, by simp⟩
  case round =>
    obtain ⟨k, hk, rfl, hA, hI, hB, hz⟩ := hrel
    obtain ⟨x, hxq⟩ : ∃ x, x = itrT p f q k := ⟨_, rfl⟩
    have hx : x < p := by rw [hxq]; exact itrT_lt p f q k hp0 hq
    have HA := Lib.hid hA
    have HI := Lib.hid hI
    have cA : wr.cell? ⟨w.heap.size, x, none⟩ = some (.int .i64 ((comesT p f q k x : Nat) : Int)) := by
      rw [← comesL_get p f q k p x hx]
      exact hA.1.cellAt x (by rw [comesL_length]; exact hx)
    obtain ⟨c, hc⟩ : ∃ c, c = comesT p f q k x := ⟨_, rfl⟩
    rw [← hc] at cA
    rw [← hxq]
    clear hA hI
    by_cases hlt : k < n
    · have hc0 : comesT p f q k (itrT p f q k) = 0 := HN.out.2 k hlt
      obtain rfl : c = 0 := by rw [hc, hxq, hc0]
      obtain ⟨m1, m2⟩ := mul_bd60 (a := x) (b := f) (by omega) (by omega)
      have HS := Lib.hid (show pathT p f q k ++ [(x : Int)] = pathT p f q (k + 1) by rw [hxq, pathT_succ])
      have HT := Lib.hid (show (comesL p f q k p).set x ((k : Int) + 1) = comesL p f q (k + 1) p by rw [hxq, comesL_set p f q k p hc0])
      have HX := Lib.hid (show itrT p f q (k + 1) = x * f % p by rw [hxq]; rfl)
      have HP := Lib.hid (pathT_length p f q k)
      have HP2 := Lib.hid (pathT_length p f q (k + 1))
      clear hc hxq hc0
      go_wp2_with (at_builtin; refine wpList_append_int rfl _ _ 40 rfl (w.heap.size + 1) 3 Try.underlying40 info_int _ _ rfl HI.out (x : Int) rfl (by rw [HP.out]; omega) (by omega) ?_; intro v' w' hI' hg'; rw [HS.out] at hI'; have hA' := HA.out.beside hg' (fun j hj => (HI.out.own j hj).1) (by omega); have hB' := (HI.out.mono (Nat.le_succ w.heap.size)).below hB (by omega) hg'; (have hz' : w.heap.size < w'.heap.size := by (have := hg'.size; omega)); obtain ⟨a2, c2, g2, rfl, ha2, _, _, _, _, _⟩ := hI'.view; obtain rfl := ha2 (by rw [HP2.out]; omega); rw [HP2.out] at *; have cc := hA'.1.cellAt x (by rw [comesL_length]; exact hx); have ff := hA'.1.frozenAt x; have HI' := Lib.hid hI'; have HA' := Lib.hid hA'; have HST := Lib.hid (hA'.1.stored x ((k : Int) + 1)); clear hI' hg' hA' hB hz cA)
      go_roundw
      case rel => exact ⟨k + 1, by omega, by rw [HX.out]; simp, ⟨by rw [← HT.out]; exact HST.out.1, HA'.out.2⟩, HI'.out.kept HST.out.2 (.inr (by have := HI'.out.own g2 rfl; simp [Value.ownBlock]; omega)), hB'.setCell (by simp) _, by simp; exact hz'⟩
      case measure =>
        obtain ⟨_, _, _, rfl, _⟩ := HI.out.view
        simp [pathT_length]
        omega
    · obtain rfl : k = n := by omega
      obtain rfl : c = l + 1 := by rw [hc, hxq, HL.out]
      have e1 : ((l : Int) + 1 == 0) = false := beq_eq_false_iff_ne.2 (by omega)
      rw [show ((l + 1 : Nat) : Int) = (l : Int) + 1 by omega] at cA
      have x0 : 0 ≤ (x : Int) := by omega
      have x1 : (x : Int) < (p : Int) := by omega
      have hw : IntKind.i64.wrap (l : Int) = (l : Int) := IntWalk.i64_in _ (by omega)
      clear hc hxq
      go_wp2
      go_quiet (fail)
      go_wp2
      go_ret2
      exact ⟨_, by first | rfl | simp, HI.out.mono (Nat.le_succ _), by first | exact hB | exact bdn hB _⟩

end Go.Proofs.Ytincoaebdmikbab
