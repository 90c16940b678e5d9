/- Times tables: points that are hit, factors by their fixed points: the functions. -/
import Derived.Test.YtincoaebdmikbaaT9
namespace Go.Proofs.Ytincoaebdmikbaa
open Go.RowKit
set_option linter.unusedVariables false

set_option maxHeartbeats 1000000 in
theorem where_fac (p : Nat) (q gp gq : Nat) (c : Nat → Bool) (w : World) (h : 3 ≤ p ∧ p ≤ 60) (cp : w.cell? ⟨gp, 0, none⟩ = some (.int .i64 p)) (cq : w.cell? ⟨gq, 0, none⟩ = some (.int .i64 q)) (hcd : ∀ k, k < p → ((selT (fun x => x * k % p == x) p).length == q) = c k) :
    Calls Try.prog 53 #[.int .i64 p, .func (.func 60) #[] #[.pointer (some ⟨gp, 0, none⟩), .pointer (some ⟨gq, 0, none⟩)]] w (GivesT w (selT c p)) := by
  have HCD := Lib.hid hcd
  have HP := Lib.hid cp
  have HQ := Lib.hid cq
  clear hcd cp cq
  go_enter Try.func53, Try.ntmps53
  go_wp2
  go_loopw [5, 8] (fun u i wr => ∃ k : Nat, k ≤ p ∧ i = .int .i64 k ∧ Ints wr w.heap.size 3 u (selT c k) ∧ Below w.heap.size w wr) (fun _ i _ => p - (intOf i).toNat)
  case atStart => exact ⟨0, by omega, rfl, World.ownsRow_nil _ _ _ _, Below.refl _ _⟩
  case round =>
    obtain ⟨k, hk, rfl, hI, hB⟩ := hrel
    have HI := Lib.hid hI
    have hz := hB.size
    clear hI
    by_cases hlt : k < p
    · have hlen := selT_length c k
      have HP2 := Lib.hid ((hB.cell (p := ⟨gp, 0, none⟩) (World.block_lt_of_cell? w _ HP.out)).trans HP.out)
      have HQ2 := Lib.hid ((hB.cell (p := ⟨gq, 0, none⟩) (World.block_lt_of_cell? w _ HQ.out)).trans HQ.out)
      cases hcb : c k with
      | true =>
        have HS := Lib.hid (selT_yes c k hcb)
        have HCB := Lib.hid hcb
        clear hcb
        go_wp2_with (first
          | (go_at_call 60; (refine (facFn_any p k q gp gq true _ h hlt HP2.out HQ2.out ((HCD.out k hlt).trans HCB.out)).mono ?_); rintro e w1 ⟨rfl, hb1⟩; have HI1 := Lib.hid (HI.out.later hb1); have hB1 := hB.trans (hb1.mono hz); have hz1 := hB1.size)
          | (at_builtin; refine wpList_append_int rfl _ _ 27 rfl (w.heap.size) 3 Try.underlying27 info_int _ _ rfl HI1.out (k : Int) rfl (by omega) (by omega) ?_; intro v' w' hI' hg'; have hB' := HI1.out.below hB1 hz1 hg'; rw [HS.out] at hI'; have HI' := Lib.hid hI'; clear hI'))
        go_roundw
        case rel => exact ⟨k + 1, by omega, by go_num, HI'.out, hB'⟩
        case measure => simp [intOf]; omega
      | false =>
        have HS := Lib.hid (selT_no c k hcb)
        have HCB := Lib.hid hcb
        clear hcb
        go_wp2_with (first
          | (go_at_call 60; (refine (facFn_any p k q gp gq false _ h hlt HP2.out HQ2.out ((HCD.out k hlt).trans HCB.out)).mono ?_); rintro e w1 ⟨rfl, hb1⟩; have HI1 := Lib.hid (HI.out.later hb1); have hB1 := hB.trans (hb1.mono hz)))
        go_roundw
        case rel => exact ⟨k + 1, by omega, by go_num, by rw [← HS.out]; exact HI1.out, hB1⟩
        case measure => simp [intOf]; omega
    · obtain rfl : k = p := by omega
      go_wp2
      go_ret
      exact ⟨_, rfl, HI.out, hB⟩

set_option maxHeartbeats 1000000 in
theorem sPointsHit_yes (p f : Nat) (c : Nat → Bool) (w : World) (h : 3 ≤ p ∧ p ≤ 60) (hf : f < p) (g : (3 ≤ (p : Int) ∧ (p : Int) ≤ 60) ∧ (0 ≤ (f : Int) ∧ (f : Int) < p)) (hcd : ∀ k, k < p → (rowT p f p).contains (k : Int) = c k) :
    Calls Try.prog 28 #[.int .i64 p, .int .i64 f] w (Gives (IntsIn 3) w (selT c p) true) := by
  have HCD := Lib.hid hcd
  clear hcd
  have p0 : 0 ≤ (p : Int) := by omega
  have p1 : (p : Int) ≤ 60 := by omega
  go_enter Try.func28, Try.ntmps28
  go_wp2_with (first
    | (go_at_call 47; (with_reducible refine (taGood_yes _ _ _ g).mono ?_); rintro e w1 ⟨rfl, rfl⟩)
    | (go_at_call 48; (with_reducible refine (taRow_any _ _ _ h hf).mono ?_); rintro e w1 ⟨v, rfl, hIr, hb⟩; obtain ⟨a1, c1, g1, rfl, ha1, _, hm, hg, hc1, _⟩ := hIr.view; obtain rfl := ha1 (by rw [rowT_length]; omega); rw [rowT_length] at *; have HC := Lib.hid hc1; clear hc1 hIr ha1))
  go_loopw [6, 8] (fun u i wr => ∃ k : Nat, k ≤ p ∧ i = .int .i64 k ∧ Ints wr w1.heap.size 3 u (selT c k) ∧ Below w1.heap.size w1 wr) (fun _ i _ => p - (intOf i).toNat)
  case atStart => exact ⟨0, by omega, rfl, World.ownsRow_nil _ _ _ _, Below.refl _ _⟩
  case round =>
    obtain ⟨k, hk, rfl, hI, hB⟩ := hrel
    have HI := Lib.hid hI
    have hz := hB.size
    clear hI
    by_cases hlt : k < p
    · have hlen := selT_length c k
      cases hcb : c k with
      | true =>
        have HS := Lib.hid (selT_yes c k hcb)
        have HCB := Lib.hid ((HCD.out k hlt).trans hcb)
        clear hcb
        have HC2 : Hid (∀ i, i < p → wr.cell? ⟨g1, i, none⟩ = some (.int .i64 ((rowT p f p).getD i 0))) := Lib.hid (fun i hi => (hB.cell (p := ⟨g1, i, none⟩) (World.block_lt_of_cell? w1 _ (HC.out i hi))).trans (HC.out i hi))
        go_wp2_with (first
          | (go_at_call 55; (refine (l1Has_any g1 p c1 (rowT p f p) (k : Int) _ _ (rowT_length p f p) (by omega) HC2.out HCB.out).mono ?_); rintro e w2 ⟨rfl, rfl⟩; have HI1 := HI; have hB1 := hB; have hz1 := hz)
          | (at_builtin; refine wpList_append_int rfl _ _ 27 rfl (w1.heap.size) 3 Try.underlying27 info_int _ _ rfl HI1.out (k : Int) rfl (by omega) (by omega) ?_; intro v' w' hI' hg'; have hB' := HI1.out.below hB1 hz1 hg'; rw [HS.out] at hI'; have HI' := Lib.hid hI'; clear hI'))
        go_roundw
        case rel => exact ⟨k + 1, by omega, by go_num, HI'.out, hB'⟩
        case measure => simp [intOf]; omega
      | false =>
        have HS := Lib.hid (selT_no c k hcb)
        have HCB := Lib.hid ((HCD.out k hlt).trans hcb)
        clear hcb
        have HC2 : Hid (∀ i, i < p → wr.cell? ⟨g1, i, none⟩ = some (.int .i64 ((rowT p f p).getD i 0))) := Lib.hid (fun i hi => (hB.cell (p := ⟨g1, i, none⟩) (World.block_lt_of_cell? w1 _ (HC.out i hi))).trans (HC.out i hi))
        go_wp2_with (first | (go_at_call 55; (refine (l1Has_any g1 p c1 (rowT p f p) (k : Int) _ _ (rowT_length p f p) (by omega) HC2.out HCB.out).mono ?_); rintro e w2 ⟨rfl, rfl⟩; have HI1 := HI; have hB1 := hB; have hz1 := hz))
        go_roundw
        case rel => exact ⟨k + 1, by omega, by go_num, by rw [← HS.out]; exact HI1.out, hB1⟩
        case measure => simp [intOf]; omega
    · obtain rfl : k = p := by omega
      go_wp2
      go_ret2
      exact giveT true HI.out hb.size (hb.trans (hB.mono hb.size))

set_option maxHeartbeats 1000000 in
theorem sFactorsWith_yes (p q : Nat) (c : Nat → Bool) (w : World) (h : 3 ≤ p ∧ p ≤ 60) (hq : q ≤ 60) (hcd : ∀ k, k < p → ((selT (fun x => x * k % p == x) p).length == q) = c k) :
    Calls Try.prog 30 #[.int .i64 p, .int .i64 q] w (Gives (IntsIn 3) w (selT c p) true) := by
  have HCD := Lib.hid hcd
  clear hcd
  have p0 : 0 ≤ (p : Int) := by omega
  have p1 : (p : Int) ≤ 60 := by omega
  go_enter Try.func30, Try.ntmps30
  go_wp2_with (first
    | (go_at_call 58; (with_reducible refine (srPoints_yes _ _ (by omega)).mono ?_); rintro e w1 ⟨rfl, rfl⟩)
    | (go_at_call 43; (with_reducible refine (l1In_yes _ _ _ _ (by omega)).mono ?_); rintro e w1 ⟨rfl, rfl⟩))
  go_loopw [6, 7] (fun u i wr => ∃ k : Nat, k ≤ p ∧ i = .int .i64 k ∧ Ints wr w.heap.size 3 u (selT c k) ∧ Below w.heap.size w wr) (fun _ i _ => p - (intOf i).toNat)
  case atStart => exact ⟨0, by omega, rfl, World.ownsRow_nil _ _ _ _, Below.refl _ _⟩
  case round =>
    obtain ⟨k, hk, rfl, hI, hB⟩ := hrel
    have HI := Lib.hid hI
    have hz := hB.size
    clear hI
    by_cases hlt : k < p
    · have hlen := selT_length c k
      cases hcb : c k with
      | true =>
        have HS := Lib.hid (selT_yes c k hcb)
        have HCB := Lib.hid ((HCD.out k hlt).trans hcb)
        clear hcb
        obtain ⟨m, hm⟩ : ∃ m, (selT (fun x => x * k % p == x) p).length = m := ⟨_, rfl⟩
        have HM := Lib.hid hm
        have e1 : ((m : Int) == (q : Int)) = true := by
          have := HCB.out
          rw [hm] at this
          rw [← this, Bool.eq_iff_iff, beq_iff_eq, beq_iff_eq]
          omega
        clear hm
        go_wp2_with (first
          | (go_at_call 51; (refine (taFixed_any p k _ _ h hlt (fun _ _ => rfl)).mono ?_); rintro e w1 ⟨v, rfl, hIr, hb1⟩; obtain ⟨a1, c1, g1, rfl, _, _, _, _, _, _⟩ := hIr.view; rw [HM.out]; clear hIr; have HI1 := Lib.hid (HI.out.later hb1); have hB1 := hB.trans (hb1.mono hz); have hz1 := hB1.size; clear hb1)
          | (at_builtin; refine wpList_append_int rfl _ _ 27 rfl (w.heap.size) 3 Try.underlying27 info_int _ _ rfl HI1.out (k : Int) rfl (by omega) (by omega) ?_; intro v' w' hI' hg'; have hB' := HI1.out.below hB1 hz1 hg'; rw [HS.out] at hI'; have HI' := Lib.hid hI'; clear hI'))
        go_roundw
        case rel => exact ⟨k + 1, by omega, by go_num, HI'.out, hB'⟩
        case measure => simp [intOf]; omega
      | false =>
        have HS := Lib.hid (selT_no c k hcb)
        have HCB := Lib.hid ((HCD.out k hlt).trans hcb)
        clear hcb
        obtain ⟨m, hm⟩ : ∃ m, (selT (fun x => x * k % p == x) p).length = m := ⟨_, rfl⟩
        have HM := Lib.hid hm
        have e1 : ((m : Int) == (q : Int)) = false := by
          have := HCB.out
          rw [hm] at this
          rw [← this, Bool.eq_iff_iff, beq_iff_eq, beq_iff_eq]
          omega
        clear hm
        go_wp2_with (first | (go_at_call 51; (refine (taFixed_any p k _ _ h hlt (fun _ _ => rfl)).mono ?_); rintro e w1 ⟨v, rfl, hIr, hb1⟩; obtain ⟨a1, c1, g1, rfl, _, _, _, _, _, _⟩ := hIr.view; rw [HM.out]; clear hIr; have HI1 := Lib.hid (HI.out.later hb1); have hB1 := hB.trans (hb1.mono hz); have hz1 := hB1.size; clear hb1))
        go_roundw
        case rel => exact ⟨k + 1, by omega, by go_num, by rw [← HS.out]; exact HI1.out, hB1⟩
        case measure => simp [intOf]; omega
    · obtain rfl : k = p := by omega
      go_wp2
      go_ret2
      exact giveT true HI.out (Nat.le_refl _) hB

set_option maxHeartbeats 400000 in
theorem sPointsHit_no (p f : Int) (w : World) (h : ¬ ((3 ≤ p ∧ p ≤ 60) ∧ (0 ≤ f ∧ f < p))) :
    Calls Try.prog 28 #[.int .i64 p, .int .i64 f] w (Gives (IntsIn 3) w [] false) := by
  go_enter Try.func28, Try.ntmps28
  go_wp2_with (first | (go_at_call 47; (with_reducible refine (taGood_no _ _ _ h).mono ?_); rintro e w1 ⟨rfl, rfl⟩))
  go_ret2
  exact giveNoT (Below.refl _ _)

set_option maxHeartbeats 400000 in
theorem sFactorsWith_no (p q : Int) (w : World) (h : ¬ ((3 ≤ p ∧ p ≤ 60) ∧ (0 ≤ q ∧ q ≤ 60))) :
    Calls Try.prog 30 #[.int .i64 p, .int .i64 q] w (Gives (IntsIn 3) w [] false) := by
  by_cases h1 : 3 ≤ p ∧ p ≤ 60
  · have h2 : ¬ (0 ≤ q ∧ q ≤ 60) := fun g => h ⟨h1, g⟩
    clear h
    go_enter Try.func30, Try.ntmps30
    go_wp2_with (first | (go_at_call 58; (with_reducible refine (srPoints_yes _ _ h1).mono ?_); rintro e w1 ⟨rfl, rfl⟩) | (go_at_call 43; (with_reducible refine (l1In_no _ _ _ _ h2).mono ?_); rintro e w1 ⟨rfl, rfl⟩))
    go_ret2
    exact giveNoT (Below.refl _ _)
  · clear h
    go_enter Try.func30, Try.ntmps30
    go_wp2_with (first | (go_at_call 58; (with_reducible refine (srPoints_no _ _ h1).mono ?_); rintro e w1 ⟨rfl, rfl⟩))
    go_ret2
    exact giveNoT (Below.refl _ _)

set_option maxHeartbeats 1000000 in
set_option maxRecDepth 100000 in
theorem iPointsHit_yes (p f : Nat) (c : Nat → Bool) (w : World) (h : 3 ≤ p ∧ p ≤ 60) (hf : f < p) (hcd : ∀ k, k < p → (rowT p f p).contains (k : Int) = c k) :
    Calls Try.prog 29 #[.int .i64 p, .int .i64 f] w (Gives (IntsIn 3) w (selT c p) true) := by
  have g : (3 ≤ (p : Int) ∧ (p : Int) ≤ 60) ∧ (0 ≤ (f : Int) ∧ (f : Int) < p) := by omega
  have HCD := Lib.hid hcd
  clear hcd
  go_enter Try.func29, Try.ntmps29
  go_wp2_with (first
    | (go_at_call 44; (with_reducible refine (isTable_yes _ _ _ g).mono ?_); rintro e w1 ⟨rfl, rfl⟩)
    | (go_at_call 49; (with_reducible refine (rowOf_any _ _ _ h hf).mono ?_); rintro e w1 ⟨rfl, hb⟩; have n1 : w.heap.size + 1 ≤ w1.heap.size := (by have := hb.size; simp at this; omega); have HR := Lib.hid (RowAt.new w1 p f); have n2 : w.heap.size < w1.heap.size := (by omega); have hq : w1.cell? ⟨w.heap.size, 0, none⟩ = some (.int .i64 p) := (cellB hb (b := w.heap.size) (o := 0) (x := .int .i64 p) (by go_simp)); have HQ := Lib.hid ((World.cell?_alloc_lt _ _ _ (show (⟨w.heap.size, 0, none⟩ : Addr).block < w1.heap.size by show w.heap.size < w1.heap.size; omega)).trans hq : (w1.alloc (.cells (rowV p f p) 46)).cell? ⟨w.heap.size, 0, none⟩ = some (.int .i64 p)); have HB := Lib.hid ((Below.trans (show Below w.heap.size w _ from by go_grown) (hb.mono (by simp))).alloc (by omega) (.cells (rowV p f p) 46)); clear hb)
    | (with_reducible refine wpList_store_new rfl 46 (.tmp 6) (.tmp 13) rfl (rowV p f p) rfl rfl _ (info_rowV p f h.2) (by simp [rowV_size p f p h.2]) (rowV_one p f p) ?_)
    | (go_at_call 53; (refine (where_hit p f _ _ c _ h hf HR.out HQ.out HCD.out).mono ?_); rintro e w2 ⟨v, rfl, hI, hb2⟩))
  go_ret2
  exact giveT true hI (by simp; omega) (HB.out.trans (hb2.mono (by simp; omega)))

set_option maxHeartbeats 400000 in
theorem iPointsHit_no (p f : Int) (w : World) (h : ¬ ((3 ≤ p ∧ p ≤ 60) ∧ (0 ≤ f ∧ f < p))) :
    Calls Try.prog 29 #[.int .i64 p, .int .i64 f] w (Gives (IntsIn 3) w [] false) := by
  go_enter Try.func29, Try.ntmps29
  go_wp2_with (first | (go_at_call 44; (with_reducible refine (isTable_no _ _ _ h).mono ?_); rintro e w1 ⟨rfl, rfl⟩))
  go_ret2
  exact giveNoT (by go_grown)

set_option maxHeartbeats 400000 in
theorem iFactorsWith_yes (p q : Nat) (c : Nat → Bool) (w : World) (h : 3 ≤ p ∧ p ≤ 60) (hq : q ≤ 60) (hcd : ∀ k, k < p → ((selT (fun x => x * k % p == x) p).length == q) = c k) :
    Calls Try.prog 31 #[.int .i64 p, .int .i64 q] w (Gives (IntsIn 3) w (selT c p) true) := by
  have q0 : 0 ≤ (q : Int) := by omega
  have q1 : (q : Int) ≤ 60 := by omega
  have HCD := Lib.hid hcd
  clear hcd
  go_enter Try.func31, Try.ntmps31
  go_wp2_with (first
    | (go_at_call 59; (with_reducible refine (isPointCount_yes _ _ (by omega)).mono ?_); rintro e w1 ⟨rfl, rfl⟩)
    | (go_at_call 53; (refine (where_fac p q w.heap.size (w.heap.size + 1) c _ h (by go_simp) (by go_simp) HCD.out).mono ?_); rintro e w2 ⟨v, rfl, hI, hb2⟩))
  go_ret2
  exact giveT true hI (by simp; omega) (Below.trans (show Below w.heap.size w _ from by go_grown) (hb2.mono (by simp; omega)))

set_option maxHeartbeats 400000 in
theorem iFactorsWith_no (p q : Int) (w : World) (h : ¬ ((3 ≤ p ∧ p ≤ 60) ∧ (0 ≤ q ∧ q ≤ 60))) :
    Calls Try.prog 31 #[.int .i64 p, .int .i64 q] w (Gives (IntsIn 3) w [] false) := by
  by_cases h1 : 3 ≤ p ∧ p ≤ 60
  · by_cases h2 : 0 ≤ q
    · have h3 : ¬ q ≤ 60 := fun g => h ⟨h1, h2, g⟩
      clear h
      go_enter Try.func31, Try.ntmps31
      go_wp2_with (first | (go_at_call 59; (with_reducible refine (isPointCount_yes _ _ h1).mono ?_); rintro e w1 ⟨rfl, rfl⟩))
      go_ret2
      exact giveNoT (by go_grown)
    · clear h
      go_enter Try.func31, Try.ntmps31
      go_wp2_with (first | (go_at_call 59; (with_reducible refine (isPointCount_yes _ _ h1).mono ?_); rintro e w1 ⟨rfl, rfl⟩))
      go_ret2
      exact giveNoT (by go_grown)
  · clear h
    go_enter Try.func31, Try.ntmps31
    go_wp2_with (first | (go_at_call 59; (with_reducible refine (isPointCount_no _ _ h1).mono ?_); rintro e w1 ⟨rfl, rfl⟩))
    go_ret2
    exact giveNoT (by go_grown)

end Go.Proofs.Ytincoaebdmikbaa
