/- Times tables: fixed points and lines to a point. -/
import Derived.Test.YtincoaebdmikbaaT7
namespace Go.Proofs.Ytincoaebdmikbaa
open Go.RowKit
set_option linter.unusedVariables false

set_option maxHeartbeats 1000000 in
theorem taFixed_any (p f  : Nat) (c : Nat → Bool) (w : World) (h : 3 ≤ p ∧ p ≤ 60) (hf : f < p)  (hcd : ∀ k, k < p → (k * f % p == k) = c k) :
    Calls Try.prog 51 #[.int .i64 p, .int .i64 f] w (GivesT w (selT c p)) := by
  have g : (3 ≤ (p : Int) ∧ (p : Int) ≤ 60) ∧ (0 ≤ (f : Int) ∧ (f : Int) < p) := by omega
  have HCD := Lib.hid hcd
  clear hcd
  go_enter Try.func51, Try.ntmps51
  go_wp2_with (first
    | (go_at_call 48; (with_reducible refine (taRow_any _ _ _ h hf).mono ?_); rintro e w1 ⟨v, rfl, hIr, hb⟩; obtain ⟨a1, c1, g1, rfl, ha1, _, hm, hg, hc1, _⟩ := hIr.view; obtain rfl := ha1 (by rw [rowT_length]; omega); rw [rowT_length] at *; have HC := Lib.hid hc1; clear hc1 hIr ha1)
    )
  go_loopw [5, 12] (fun u i wr => ∃ k : Nat, k ≤ p ∧ i = .int .i64 k ∧ Ints wr w1.heap.size 3 u (selT c k) ∧ Below w1.heap.size w1 wr) (fun _ i _ => p - (intOf i).toNat)
  case atStart => exact ⟨0, by omega, rfl, World.ownsRow_nil _ _ _ _, Below.refl _ _⟩
  case round =>
    obtain ⟨k, hk, rfl, hI, hB⟩ := hrel
    have HI := Lib.hid hI
    have hz := hB.size
    clear hI
    by_cases hlt : k < p
    · have hlen := selT_length c k
      obtain ⟨x, hx⟩ : ∃ x, k * f % p = x := ⟨_, rfl⟩
      have cc : wr.cell? ⟨g1, k, none⟩ = some (.int .i64 (x : Int)) := (hB.cell (p := ⟨g1, k, none⟩) (World.block_lt_of_cell? w1 _ (HC.out k hlt))).trans (by rw [HC.out k hlt, rowT_at p f k hlt, hx])
      have hcx := HCD.out k hlt
      rw [hx] at hcx
      clear hx
      cases hcb : c k with
      | true =>
        have HS := Lib.hid (selT_yes c k hcb)
        have e1 : ((k : Int) == (x : Int)) = true := by
          rw [hcb, beq_iff_eq] at hcx
          rw [beq_iff_eq]
          omega
        clear hcx hcb
        go_wp2_with (first | (at_builtin; refine wpList_append_int rfl _ _ 27 rfl (w1.heap.size) 3 Try.underlying27 info_int _ _ rfl HI.out (k : Int) rfl (by omega) (by omega) ?_; intro v' w' hI' hg'; have hB' := HI.out.below hB hz hg'; rw [HS.out] at hI'; have HI' := Lib.hid hI'; clear hI'))
        go_roundw
        case rel => exact ⟨k + 1, by omega, by go_num, HI'.out, hB'⟩
        case measure => simp [intOf]; omega
      | false =>
        have HS := Lib.hid (selT_no c k hcb)
        have e1 : ((k : Int) == (x : Int)) = false := by
          rw [hcb, beq_eq_false_iff_ne] at hcx
          rw [beq_eq_false_iff_ne]
          omega
        clear hcx hcb
        go_wp2
        go_roundw
        case rel => exact ⟨k + 1, by omega, by go_num, by rw [← HS.out]; exact HI.out, hB⟩
        case measure => simp [intOf]; omega
    · obtain rfl : k = p := by omega
      go_wp2
      go_ret
      exact ⟨_, rfl, HI.out.mono hb.size, hb.trans (hB.mono hb.size)⟩

set_option maxHeartbeats 1000000 in
theorem sLinesTo_yes (p f q : Nat) (c : Nat → Bool) (w : World) (h : 3 ≤ p ∧ p ≤ 60) (hf : f < p) (hq : q < p) (hcd : ∀ k, k < p → (k * f % p == q) = c k) :
    Calls Try.prog 26 #[.int .i64 p, .int .i64 f, .int .i64 q] w (Gives (IntsIn 3) w (selT c p) true) := by
  have g : (3 ≤ (p : Int) ∧ (p : Int) ≤ 60) ∧ (0 ≤ (f : Int) ∧ (f : Int) < p) := by omega
  have HCD := Lib.hid hcd
  clear hcd
  go_enter Try.func26, Try.ntmps26
  go_wp2_with (first
    | (go_at_call 48; (with_reducible refine (taRow_any _ _ _ h hf).mono ?_); rintro e w1 ⟨v, rfl, hIr, hb⟩; obtain ⟨a1, c1, g1, rfl, ha1, _, hm, hg, hc1, _⟩ := hIr.view; obtain rfl := ha1 (by rw [rowT_length]; omega); rw [rowT_length] at *; have HC := Lib.hid hc1; clear hc1 hIr ha1)
    | (go_at_call 42; (with_reducible refine (taAsked_yes _ _ _ _ g (by omega)).mono ?_); rintro e w1 ⟨rfl, rfl⟩))
  go_loopw [8, 20] (fun u i wr => ∃ k : Nat, k ≤ p ∧ i = .int .i64 k ∧ Ints wr w1.heap.size 3 u (selT c k) ∧ Below w1.heap.size w1 wr) (fun _ i _ => p - (intOf i).toNat)
  case atStart => exact ⟨0, by omega, rfl, World.ownsRow_nil _ _ _ _, Below.refl _ _⟩
  case round =>
    obtain ⟨k, hk, rfl, hI, hB⟩ := hrel
    have HI := Lib.hid hI
    have hz := hB.size
    clear hI
    by_cases hlt : k < p
    · have hlen := selT_length c k
      obtain ⟨x, hx⟩ : ∃ x, k * f % p = x := ⟨_, rfl⟩
      have cc : wr.cell? ⟨g1, k, none⟩ = some (.int .i64 (x : Int)) := (hB.cell (p := ⟨g1, k, none⟩) (World.block_lt_of_cell? w1 _ (HC.out k hlt))).trans (by rw [HC.out k hlt, rowT_at p f k hlt, hx])
      have hcx := HCD.out k hlt
      rw [hx] at hcx
      clear hx
      cases hcb : c k with
      | true =>
        have HS := Lib.hid (selT_yes c k hcb)
        have e1 : ((x : Int) == (q : Int)) = true := by
          rw [hcb, beq_iff_eq] at hcx
          rw [beq_iff_eq]
          omega
        clear hcx hcb
        go_wp2_with (first | (at_builtin; refine wpList_append_int rfl _ _ 27 rfl (w1.heap.size) 3 Try.underlying27 info_int _ _ rfl HI.out (k : Int) rfl (by omega) (by omega) ?_; intro v' w' hI' hg'; have hB' := HI.out.below hB hz hg'; rw [HS.out] at hI'; have HI' := Lib.hid hI'; clear hI'))
        go_roundw
        case rel => exact ⟨k + 1, by omega, by go_num, HI'.out, hB'⟩
        case measure => simp [intOf]; omega
      | false =>
        have HS := Lib.hid (selT_no c k hcb)
        have e1 : ((x : Int) == (q : Int)) = false := by
          rw [hcb, beq_eq_false_iff_ne] at hcx
          rw [beq_eq_false_iff_ne]
          omega
        clear hcx hcb
        go_wp2
        go_roundw
        case rel => exact ⟨k + 1, by omega, by go_num, by rw [← HS.out]; exact HI.out, hB⟩
        case measure => simp [intOf]; omega
    · obtain rfl : k = p := by omega
      go_wp2
      go_ret2
      exact giveT true HI.out hb.size (hb.trans (hB.mono hb.size))

set_option maxHeartbeats 400000 in
theorem sLinesTo_no (p f q : Int) (w : World) (h : ¬ (((3 ≤ p ∧ p ≤ 60) ∧ (0 ≤ f ∧ f < p)) ∧ (0 ≤ q ∧ q < p))) :
    Calls Try.prog 26 #[.int .i64 p, .int .i64 f, .int .i64 q] w (Gives (IntsIn 3) w [] false) := by
  go_enter Try.func26, Try.ntmps26
  go_wp2_with (first | (go_at_call 42; (with_reducible refine (taAsked_no _ _ _ _ h).mono ?_); rintro e w1 ⟨rfl, rfl⟩))
  go_ret2
  exact giveNoT (Below.refl _ _)

set_option maxHeartbeats 400000 in
theorem sFixedPoints_yes (p f : Nat) (c : Nat → Bool) (w : World) (h : 3 ≤ p ∧ p ≤ 60) (hf : f < p) (hcd : ∀ k, k < p → (k * f % p == k) = c k) :
    Calls Try.prog 24 #[.int .i64 p, .int .i64 f] w (Gives (IntsIn 3) w (selT c p) true) := by
  have g : (3 ≤ (p : Int) ∧ (p : Int) ≤ 60) ∧ (0 ≤ (f : Int) ∧ (f : Int) < p) := by omega
  have HCD := Lib.hid hcd
  clear hcd
  go_enter Try.func24, Try.ntmps24
  go_wp2_with (first | (go_at_call 47; (with_reducible refine (taGood_yes _ _ _ g).mono ?_); rintro e w1 ⟨rfl, rfl⟩) | (go_at_call 51; (with_reducible refine (taFixed_any _ _ c _ h hf HCD.out).mono ?_); rintro e w1 ⟨v, rfl, hI, hb⟩))
  go_ret2
  exact giveT true hI (Nat.le_refl _) hb

set_option maxHeartbeats 400000 in
theorem sFixedPoints_no (p f : Int) (w : World) (h : ¬ ((3 ≤ p ∧ p ≤ 60) ∧ (0 ≤ f ∧ f < p))) :
    Calls Try.prog 24 #[.int .i64 p, .int .i64 f] w (Gives (IntsIn 3) w [] false) := by
  go_enter Try.func24, Try.ntmps24
  go_wp2_with (first | (go_at_call 47; (with_reducible refine (taGood_no _ _ _ h).mono ?_); rintro e w1 ⟨rfl, rfl⟩))
  go_ret2
  exact giveNoT (Below.refl _ _)

set_option maxHeartbeats 1000000 in
set_option maxRecDepth 100000 in
theorem fixedPoints_any (p f : Nat) (c : Nat → Bool) (w : World) (h : 3 ≤ p ∧ p ≤ 60) (hf : f < p) (hcd : ∀ k, k < p → (k * f % p == k) = c k) :
    Calls Try.prog 52 #[.int .i64 p, .int .i64 f] w (GivesT w (selT c p)) := by
  have HCD := Lib.hid hcd
  clear hcd
  go_enter Try.func52, Try.ntmps52
  go_wp2_with (first
    | (go_at_call 49; (with_reducible refine (rowOf_any _ _ _ h hf).mono ?_); rintro e w1 ⟨rfl, hb⟩; have HR := Lib.hid (RowAt.new w1 p f); have HB := Lib.hid (hb.alloc hb.size (.cells (rowV p f p) 46)))
    | (with_reducible refine wpList_store_new rfl 46 (.tmp 5) (.tmp 8) rfl (rowV p f p) rfl rfl _ (info_rowV p f h.2) (by simp [rowV_size p f p h.2]) (rowV_one p f p) ?_)
    | (go_at_call 53; (refine (where_fix p f _ c _ h hf HR.out HCD.out).mono ?_); rintro e w2 ⟨v, rfl, hI, hb2⟩))
  go_ret
  exact ⟨_, rfl, hI.mono (by simp; have := hb.size; omega), HB.out.trans (hb2.mono (by simp; have := hb.size; omega))⟩

set_option maxHeartbeats 400000 in
theorem iFixedPoints_yes (p f : Nat) (c : Nat → Bool) (w : World) (h : 3 ≤ p ∧ p ≤ 60) (hf : f < p) (hcd : ∀ k, k < p → (k * f % p == k) = c k) :
    Calls Try.prog 25 #[.int .i64 p, .int .i64 f] w (Gives (IntsIn 3) w (selT c p) true) := by
  have g : (3 ≤ (p : Int) ∧ (p : Int) ≤ 60) ∧ (0 ≤ (f : Int) ∧ (f : Int) < p) := by omega
  have HCD := Lib.hid hcd
  clear hcd
  go_enter Try.func25, Try.ntmps25
  go_wp2_with (first | (go_at_call 44; (with_reducible refine (isTable_yes _ _ _ g).mono ?_); rintro e w1 ⟨rfl, rfl⟩) | (go_at_call 52; (with_reducible refine (fixedPoints_any _ _ c _ h hf HCD.out).mono ?_); rintro e w1 ⟨v, rfl, hI, hb⟩))
  go_ret2
  exact giveT true hI (Nat.le_refl _) hb

set_option maxHeartbeats 400000 in
theorem iFixedPoints_no (p f : Int) (w : World) (h : ¬ ((3 ≤ p ∧ p ≤ 60) ∧ (0 ≤ f ∧ f < p))) :
    Calls Try.prog 25 #[.int .i64 p, .int .i64 f] w (Gives (IntsIn 3) w [] false) := by
  go_enter Try.func25, Try.ntmps25
  go_wp2_with (first | (go_at_call 44; (with_reducible refine (isTable_no _ _ _ h).mono ?_); rintro e w1 ⟨rfl, rfl⟩))
  go_ret2
  exact giveNoT (Below.refl _ _)

set_option maxHeartbeats 1000000 in
set_option maxRecDepth 100000 in
theorem iLinesTo_yes (p f q : Nat) (c : Nat → Bool) (w : World) (h : 3 ≤ p ∧ p ≤ 60) (hf : f < p) (hq : q < p) (hcd : ∀ k, k < p → (k * f % p == q) = c k) :
    Calls Try.prog 27 #[.int .i64 p, .int .i64 f, .int .i64 q] w (Gives (IntsIn 3) w (selT c p) true) := by
  have g : (3 ≤ (p : Int) ∧ (p : Int) ≤ 60) ∧ (0 ≤ (f : Int) ∧ (f : Int) < p) := by omega
  have HCD := Lib.hid hcd
  clear hcd
  go_enter Try.func27, Try.ntmps27
  go_wp2_with (first
    | (go_at_call 44; (with_reducible refine (isTable_yes _ _ _ g).mono ?_); rintro e w1 ⟨rfl, rfl⟩)
    | (go_at_call 45; (with_reducible refine (isPoint_yes _ _ _ (by omega)).mono ?_); rintro e w1 ⟨rfl, rfl⟩)
    | (go_at_call 49; (with_reducible refine (rowOf_any _ _ _ h hf).mono ?_); rintro e w1 ⟨rfl, hb⟩; have n1 : w.heap.size + 1 ≤ w1.heap.size := (by have := hb.size; simp at this; omega); have HR := Lib.hid (RowAt.new w1 p f); have HQ := Lib.hid ((World.cell?_alloc_lt _ _ _ (show (⟨w.heap.size, 0, none⟩ : Addr).block < w1.heap.size by show w.heap.size < w1.heap.size; omega)).trans (cellB hb (b := w.heap.size) (o := 0) (x := .int .i64 q) (by go_simp)) : (w1.alloc (.cells (rowV p f p) 46)).cell? ⟨w.heap.size, 0, none⟩ = some (.int .i64 q)); have HB := Lib.hid ((Below.trans (show Below w.heap.size w _ from by go_grown) (hb.mono (by simp))).alloc (by omega) (.cells (rowV p f p) 46)); clear hb)
    | (with_reducible refine wpList_store_new rfl 46 (.tmp 8) (.tmp 21) rfl (rowV p f p) rfl rfl _ (info_rowV p f h.2) (by simp [rowV_size p f p h.2]) (rowV_one p f p) ?_)
    | (go_at_call 53; (refine (where_line p f q _ _ c _ h hf HR.out HQ.out HCD.out).mono ?_); rintro e w2 ⟨v, rfl, hI, hb2⟩))
  go_ret2
  exact giveT true hI (by simp; omega) (HB.out.trans (hb2.mono (by simp; omega)))

set_option maxHeartbeats 400000 in
theorem iLinesTo_no (p f q : Int) (w : World) (h : ¬ (((3 ≤ p ∧ p ≤ 60) ∧ (0 ≤ f ∧ f < p)) ∧ (0 ≤ q ∧ q < p))) :
    Calls Try.prog 27 #[.int .i64 p, .int .i64 f, .int .i64 q] w (Gives (IntsIn 3) w [] false) := by
  by_cases h1 : (3 ≤ p ∧ p ≤ 60) ∧ (0 ≤ f ∧ f < p)
  · have h2 : ¬ (0 ≤ q ∧ q < p) := fun g => h ⟨h1, g⟩
    clear h
    go_enter Try.func27, Try.ntmps27
    go_wp2_with (first | (go_at_call 44; (with_reducible refine (isTable_yes _ _ _ h1).mono ?_); rintro e w1 ⟨rfl, rfl⟩) | (go_at_call 45; (with_reducible refine (isPoint_no _ _ _ h2).mono ?_); rintro e w1 ⟨rfl, rfl⟩))
    go_ret2
    exact giveNoT (by go_grown)
  · clear h
    go_enter Try.func27, Try.ntmps27
    go_wp2_with (first | (go_at_call 44; (with_reducible refine (isTable_no _ _ _ h1).mono ?_); rintro e w1 ⟨rfl, rfl⟩))
    go_ret2
    exact giveNoT (by go_grown)

end Go.Proofs.Ytincoaebdmikbaa
