/- The groups of chords that cross: both sides, and the law. -/
import Derived.Test.YtinjldakmjganaaG7
namespace Go.Proofs.Ytinjldakmjganaa
open Go.RowKit
set_option linter.unusedVariables false

def rowsTo (L : LabT) (r i : Nat) : List Nat := (List.range i).filter fun a => (labT L a).map (·.1) == some r

theorem rowsTo_all (n : Nat) (L : LabT) (r : Nat) : rowsTo L r n = rowsT n L r := rfl

theorem rootV_eq (L : LabT) (i r : Nat) : (rootV L i == (r : Int)) = ((labT L i).map (·.1) == some r) := by
  unfold rootV
  rw [Bool.eq_iff_iff, beq_iff_eq, beq_iff_eq]
  cases e : labT L i with
  | none => simp
  | some x => simp; omega

theorem rowsTo_yes (L : LabT) (r i : Nat) (h : (rootV L i == (r : Int)) = true) : rowsTo L r (i + 1) = rowsTo L r i ++ [i] := by
  rw [rootV_eq] at h
  simp [rowsTo, List.range_succ, List.filter_append, h]

theorem rowsTo_no (L : LabT) (r i : Nat) (h : (rootV L i == (r : Int)) = false) : rowsTo L r (i + 1) = rowsTo L r i := by
  rw [rootV_eq] at h
  simp [rowsTo, List.range_succ, List.filter_append, h]

theorem rowsTo_length (L : LabT) (r i : Nat) : (rowsTo L r i).length ≤ i := by
  have := List.length_filter_le (fun a => (labT L a).map (·.1) == some r) (List.range i)
  rw [List.length_range] at this
  exact this

/-- The groups whose first chords are among the first so many. -/
def resG (n : Nat) (L : LabT) (k : Nat) : List (List Int) := ((List.range k).filter (rootT L)).map fun r => natsI (rowsT n L r)

theorem resG_yes (n : Nat) (L : LabT) (k : Nat) (h : rootT L k = true) : resG n L (k + 1) = resG n L k ++ [natsI (rowsT n L k)] := by
  simp [resG, List.range_succ, List.filter_append, h]

theorem resG_no (n : Nat) (L : LabT) (k : Nat) (h : rootT L k = false) : resG n L (k + 1) = resG n L k := by
  simp [resG, List.range_succ, List.filter_append, h]

theorem resG_length (n : Nat) (L : LabT) (k : Nat) : (resG n L k).length ≤ k := by
  have := List.length_filter_le (rootT L) (List.range k)
  rw [List.length_range] at this
  simp only [resG, List.length_map]
  exact this

theorem rowsT_root {n : Nat} {L : LabT} {r : Nat} (hr : r < n) (h : rootT L r = true) : 0 < (rowsT n L r).length := by
  refine List.length_pos_of_mem (a := r) ?_
  unfold rowsT
  rw [List.mem_filter, List.mem_range]
  exact ⟨hr, h⟩

theorem rowsT_none {n : Nat} {T : LabT × List (List Nat)} (hO : OutI n n T) {r : Nat} (h : rootT T.1 r = false) : (rowsT n T.1 r).length = 0 := by
  rw [List.length_eq_zero_iff]
  unfold rowsT
  rw [List.filter_eq_nil_iff]
  intro i hi hc
  rw [beq_iff_eq] at hc
  cases e : labT T.1 i with
  | none => rw [e] at hc; cases hc
  | some x =>
    rw [e] at hc
    simp at hc
    have := (hO.low i x e).2.2
    rw [hc] at this
    unfold rootT at h
    rw [this] at h
    simp at h

theorem resG_all {n : Nat} {T : LabT × List (List Nat)} (hO : OutI n n T) : T.2.map rowN = resG n T.1 n := by
  have h := congrArg (List.map natsI) hO.grp
  rw [List.map_map, List.map_map] at h
  exact h

theorem cells_bound (b : Nat) : ∀ (xss : List (List Int)), (∀ r ∈ xss, r.length ≤ b) → cellsOf xss ≤ xss.length * b
  | [], _ => by simp [cellsOf]
  | x :: r, h => by
    have e : cellsOf (x :: r) = x.length + cellsOf r := by simp [cellsOf]
    have h1 := cells_bound b r fun y hy => h y (List.mem_cons_of_mem _ hy)
    have h2 := h x List.mem_cons_self
    rw [e, List.length_cons, Nat.succ_mul]
    omega

theorem resG_small (n : Nat) (L : LabT) (h : n ≤ 40) : (resG n L n).length ≤ 40 ∧ cellsOf (resG n L n) ≤ 1600 := by
  have h1 := resG_length n L n
  have h2 := cells_bound 40 (resG n L n) fun r hr => by
    obtain ⟨a, _, rfl⟩ := List.mem_map.1 hr
    have := rowsTo_length L a n
    rw [natsI_length, ← rowsTo_all]
    omega
  have h3 : (resG n L n).length * 40 ≤ 40 * 40 := Nat.mul_le_mul_right _ (by omega)
  omega

set_option maxHeartbeats 4000000 in
set_option maxRecDepth 100000 in
theorem sCrossingGroups_yes (p : Int) (u : Value) (xs : List (Int × Int)) (B T : Nat) (w : World) (h : PairsIn 48 w B T u xs) (hT : T ≤ w.heap.size) (hg : goodC p xs) : Calls Try.prog 8 #[.int .i64 p, u] w (Gives (RowsIn 36 3) w (resG xs.length (outerK (crL xs) xs.length xs.length).1 xs.length) true) := by
  have hl := hg.2.1
  have ho := chord_order hg
  have HOI := Lib.hid (outI (crL xs) xs.length xs.length (Nat.le_refl _))
  have hsrc := h.pairs.view
  obtain ⟨a1, c1, g1, rfl, -⟩ := hsrc
  go_enter Try.func8, Try.ntmps8
  go_wp2_with (first | (go_at_call 25; (with_reducible refine (cdGood_yes p _ xs B T _ h hg).mono ?_); rintro e w1 ⟨rfl, hb1⟩; have h1 := h.keep (belowSame hb1 hT); have hz1 := hb1.size) | (go_at_call 26; (with_reducible refine (cdGroups_any _ xs B T _ h1 (Nat.le_trans hT hz1) hl ho).mono ?_); rintro e w2 ⟨rfl, hr2, hd2, hb2, hbd2⟩; have hB2 := hb1.trans (hb2.mono hz1); have hz2 := hd2.lt; clear hd2 hbd2 hb2))
  obtain ⟨E, hE⟩ : ∃ E, E = outerK (crL xs) xs.length xs.length := ⟨_, rfl⟩
  have HME := Lib.hid (congrArg (·.1) hE)
  rw [← hE] at hr2 HOI
  obtain ⟨M, G⟩ := E
  simp only at hr2
  have HR2 := Lib.hid hr2
  have HB2 := Lib.hid hB2
  clear hE h h1 hb1 hr2 hB2 ho hg
  go_loopw [8, 24] (fun r t wr => ∃ k : Nat, k ≤ xs.length ∧ t = .int .i64 k ∧ RowsIn 36 3 wr w2.heap.size wr.heap.size r (resG xs.length M k) ∧ ArrAt 3 wr w1.heap.size (rootsL xs.length M) ∧ Below w.heap.size w wr ∧ w2.heap.size ≤ wr.heap.size) (fun _ t _ => xs.length - (intOf t).toNat)
  case atStart => exact ⟨0, by omega, rfl, RowsIn.nil _ _ _ _ _, HR2.out, HB2.out, Nat.le_refl _⟩
  case round =>
    obtain ⟨wo, rfl⟩ : ∃ z, z = wr := ⟨wr, rfl⟩
    obtain ⟨k, hk, rfl, hR, hr, hB, hz⟩ := hrel
    by_cases hlt : k < xs.length
    · obtain ⟨vs0, hvs0⟩ := hR
      obtain ⟨a5, c5, g5, hr5, -⟩ := hvs0.view
      obtain ⟨lg, hlg⟩ : ∃ n, n = (resG xs.length M k).length := ⟨_, rfl⟩
      have hlg40 : lg ≤ 40 := by rw [hlg]; exact Nat.le_trans (resG_length _ _ _) (by omega)
      rw [← hlg] at hr5
      subst hr5
      have hvl : vs0.length ≤ 40 := by rw [hvs0.len, ← hlg]; exact hlg40
      have HVS := Lib.hid hvs0
      have HR := Lib.hid hr
      have HB := Lib.hid hB
      have hw1 : IntKind.i64.wrap ((k : Int) + 1) = ((k + 1 : Nat) : Int) := by rw [IntKind.wrap_i64]; omega
      clear hvs0 hlg hr hB HR2 HB2
      go_wp2
      go_loopw [10, 29] (fun g t wr => ∃ i : Nat, t = .int .i64 i ∧ i ≤ xs.length ∧ Ints wr wo.heap.size 3 g (natsI (rowsTo M k i)) ∧ RowsAt 36 3 wr w2.heap.size wo.heap.size (.slice a5 lg c5) vs0 (resG xs.length M k) ∧ ArrAt 3 wr w1.heap.size (rootsL xs.length M) ∧ Below w.heap.size w wr ∧ wo.heap.size ≤ wr.heap.size) (fun _ t _ => xs.length - (intOf t).toNat)
      case atStart => exact ⟨0, rfl, by omega, World.ownsRow_nil _ _ _ _, HVS.out, HR.out, HB.out, Nat.le_refl _⟩
      case round =>
        obtain ⟨i, rfl, hi, hI, hRi, hr, hB, hzi⟩ := hrel
        have hlen := rowsTo_length M k i
        by_cases hilt : i < xs.length
        · have hcz := hr.cell i (by rw [rootsL_length]; exact hilt)
          rw [rootsL_get _ _ _ hilt] at hcz
          have hi1 : 0 ≤ (i : Int) := by omega
          have hi2 : (i : Int) < (xs.length : Int) := by omega
          have hwi : IntKind.i64.wrap ((i : Int) + 1) = ((i + 1 : Nat) : Int) := by rw [IntKind.wrap_i64]; omega
          have HI := Lib.hid hI
          have HRI := Lib.hid hRi
          have HRR := Lib.hid hr
          have HBI := Lib.hid hB
          obtain ⟨z, hzv⟩ : ∃ z, z = rootV M i := ⟨_, rfl⟩
          rw [← hzv] at hcz
          clear hI hRi hr hB HVS HR HB
          cases hzk : z == (k : Int) with
          | true =>
            have HY := Lib.hid (rowsTo_yes M k i (by rw [← hzv]; exact hzk))
            clear hzv
            go_wp2_with (at_builtin; refine wpList_append_int rfl _ _ 36 rfl (wo.heap.size) 3 Try.underlying36 info_int _ _ rfl HI.out (((i : Nat) : Int)) rfl (by rw [natsI_length]; omega) (by omega) ?_; intro v' w' hI' hg';  rw [natsI_snoc, ← HY.out] at hI'; have HI' := Lib.hid hI'; have HG' := Lib.hid hg'; clear hI' hg')
            have hown := HI.out.own
            go_roundw
            case rel => exact ⟨i + 1, by go_num, by omega, HI'.out, HRI.out.keep (sameG HG'.out (by omega) (fun b hb => (hown b hb).1)), HRR.out.kept HI.out HG'.out (by omega), HBI.out.grown HG'.out (by omega) (fun b hb => by have := (hown b hb).1; omega), by have := HG'.out.size; omega⟩
            case measure => simp [intOf]; omega
          | false =>
            have HY := Lib.hid (rowsTo_no M k i (by rw [← hzv]; exact hzk))
            clear hzv
            go_wp2
            go_roundw
            case rel => exact ⟨i + 1, by go_num, by omega, by rw [HY.out]; exact HI.out, HRI.out, HRR.out, HBI.out, hzi⟩
            case measure => simp [intOf]; omega
        · obtain rfl : i = xs.length := by omega
          rw [rowsTo_all] at hI
          rw [rowsTo_all] at hlen
          obtain ⟨a2, cap2, g2, hv2, -⟩ := id hI.view
          rw [natsI_length] at hv2
          obtain ⟨lr, hlr⟩ : ∃ n, n = (rowsT xs.length M k).length := ⟨_, rfl⟩
          rw [← hlr] at hv2
          subst hv2
          have HI := Lib.hid hI
          have HRI := Lib.hid hRi
          have HRR := Lib.hid hr
          have HBI := Lib.hid hB
          clear hI hRi hr hB HVS HR HB
          cases hrt : rootT M k with
          | true =>
            have hpos : 0 < lr := by rw [hlr]; exact rowsT_root hlt hrt
            have HY := Lib.hid (resG_yes xs.length M k hrt)
            clear hrt hlr
            go_wp2_with (at_builtin; refine wpList_append_val rfl _ _ 24 rfl w2.heap.size 36 (.slice none 0 0) 24 Try.underlying24 info_ints (by decide) (by decide) _ vs0 rfl HRI.out.outer _ rfl rfl (by omega) (by omega) ?_; intro v' w4 ho hg; have hn4 := hg.size; have HM := Lib.hid (HRI.out.more (by decide) HI.out.inn (by omega) (by omega) hn4 ho hg); have HG4 := Lib.hid hg; clear ho hg)
            have hown : ∀ b, (Value.slice a5 lg c5).ownBlock = some b → w2.heap.size ≤ b := fun b hb => (HRI.out.outer.lt b hb).1
            go_roundw
            case rel => exact ⟨k + 1, by omega, by go_num, by rw [HY.out]; exact ⟨_, HM.out⟩, (HG4.out.block _ HRR.out.lt (fun e => by have := hown _ e.symm; omega)).trans HRR.out, HBI.out.grown HG4.out (by omega) (fun b hb => by have := hown b hb; omega), by have := HG4.out.size; omega⟩
            case measure => simp [intOf]; omega
          | false =>
            have hlr0 : lr = 0 := by rw [hlr]; exact rowsT_none HOI.out hrt
            have HY := Lib.hid (resG_no xs.length M k hrt)
            subst hlr0
            clear hrt hlr
            go_wp2
            go_roundw
            case rel => exact ⟨k + 1, by omega, by go_num, by rw [HY.out]; exact ⟨_, HRI.out.wider (by omega)⟩, HRR.out, HBI.out, by omega⟩
            case measure => simp [intOf]; omega
    · obtain rfl : k = xs.length := by omega
      go_wp2
      go_ret2
      refine ⟨_, rfl, ?_, hB⟩
      rw [← HME.out]
      obtain ⟨vs, hvs⟩ := hR
      have hlow := hvs.lower (B' := w.heap.size) (by omega)
      exact ⟨vs, hlow⟩

set_option maxHeartbeats 400000 in
theorem sCrossingGroups_no (p : Int) (u : Value) (xs : List (Int × Int)) (B T : Nat) (w : World) (h : PairsIn 48 w B T u xs) (hT : T ≤ w.heap.size) (hg : ¬ goodC p xs) : Calls Try.prog 8 #[.int .i64 p, u] w (Gives (RowsIn 36 3) w [] false) := by
  go_enter Try.func8, Try.ntmps8
  go_wp2_with (first | (go_at_call 25; (with_reducible refine (cdGood_no p u xs B T _ h hg).mono ?_); rintro e w1 ⟨rfl, hb1⟩))
  go_ret2
  exact giveNoRows hb1

set_option maxHeartbeats 400000 in
theorem iCrossingGroups_yes (p : Int) (u : Value) (xs : List (Int × Int)) (B T : Nat) (w : World) (h : PairsIn 48 w B T u xs) (hT : T ≤ w.heap.size) (hg : goodC p xs) : Calls Try.prog 10 #[.int .i64 p, u] w (Gives (RowsIn 36 3) w (resG xs.length (outerK (crL xs) xs.length xs.length).1 xs.length) true) := by
  have hl := hg.2.1
  rw [← resG_all (outI (crL xs) xs.length xs.length (Nat.le_refl _))]
  go_enter Try.func10, Try.ntmps10
  go_wp2_with (first | (go_at_call 28; (with_reducible refine (AreChords_yes p u xs B T _ h hg).mono ?_); rintro e w1 ⟨rfl, hb1⟩; have h1 := h.keep (belowSame hb1 hT); have hz1 := hb1.size) | (go_at_call 29; (with_reducible refine (groupsAndSides_any _ xs B T _ h1 (Nat.le_trans hT hz1) hl).mono ?_); rintro e w2 ⟨v, rfl, hr, h9, hb2⟩; have hB2 := hb1.trans (hb2.mono hz1)))
  go_ret2
  exact giveRows true hr (by omega) hB2

set_option maxHeartbeats 400000 in
theorem iCrossingGroups_no (p : Int) (u : Value) (xs : List (Int × Int)) (B T : Nat) (w : World) (h : PairsIn 48 w B T u xs) (hT : T ≤ w.heap.size) (hg : ¬ goodC p xs) : Calls Try.prog 10 #[.int .i64 p, u] w (Gives (RowsIn 36 3) w [] false) := by
  go_enter Try.func10, Try.ntmps10
  go_wp2_with (first | (go_at_call 28; (with_reducible refine (AreChords_no p u xs B T _ h hg).mono ?_); rintro e w1 ⟨rfl, hb1⟩))
  go_ret2
  exact giveNoRows hb1

set_option maxHeartbeats 1000000 in
theorem core_CrossingGroups (p : Int) (v : Value) (xs : List (Int × Int)) (x : List (List Int)) (b : Bool) (w : World) (hA : ArgP w v xs) (hn : xs.length ≤ 1048576) (hx : cellsOf x ≤ 1000000) (hr : x.length ≤ 1000000)
    (hs : ∀ (W : World) (u : Value) (B T : Nat), PairsIn 48 W B T u xs → T ≤ W.heap.size → Calls Try.prog 8 #[.int .i64 p, u] W (Gives (RowsIn 36 3) W x b))
    (hi : ∀ (W : World) (u : Value) (B T : Nat), PairsIn 48 W B T u xs → T ≤ W.heap.size → Calls Try.prog 10 #[.int .i64 p, u] W (Gives (RowsIn 36 3) W x b)) :
    Calls Try.prog 3 #[.int .i64 p, v] w fun e w' => e = .returned (.bool true) ∧ Below w.heap.size w w' := by
  have hA1 := hA
  obtain ⟨a0, cap, a, rfl, _⟩ := hA1
  have HS := Lib.hid hs
  have HI := Lib.hid hi
  have HA := Lib.hid hA
  clear hs hi hA
  go_enter Try.func3, Try.ntmps3
  go_wp2_with fail
  refine (szChordS_yes _ _ _ _ hn).mono ?_
  rintro e w0 ⟨rfl, rfl⟩
  go_wp2_with fail
  refine (toChordS_any _ _ _ (HA.out.later (by go_grown)) hn).mono ?_
  rintro e w1 ⟨va, rfl, ka_1, hb1⟩
  have n1 : w.heap.size ≤ w1.heap.size := by have := hb1.size; (try simp at this); omega
  have B1 : Below w.heap.size w w1 := Below.trans (by go_grown) (hb1.mono (by first | (simp; done) | (simp; omega)))
  go_wp2_with fail
  refine (HS.out _ _ _ _ ka_1 (by omega)).mono ?_
  rintro e w2 ⟨vw, rfl, kw_2, hb2⟩
  have n2 := hb2.size
  have B2 := B1.trans (hb2.mono (by omega))
  have ka_2 := ka_1.keep (belowSame hb2 (by omega))
  go_wp2_with fail
  refine (toChordS_any _ _ _ (HA.out.later B2) hn).mono ?_
  rintro e w3 ⟨vc, rfl, kc_3, hb3⟩
  have n3 := hb3.size
  have B3 := B2.trans (hb3.mono (by omega))
  have ka_3 := ka_2.keep (belowSame hb3 (by omega))
  have kw_3 := kw_2.keep (belowSame hb3 (by omega))
  go_wp2_with fail
  refine (HI.out _ _ _ _ kc_3 (by omega)).mono ?_
  rintro e w4 ⟨vg, rfl, kg_4, hb4⟩
  have n4 := hb4.size
  have B4 := B3.trans (hb4.mono (by omega))
  have ka_4 := ka_3.keep (belowSame hb4 (by omega))
  have kw_4 := kw_3.keep (belowSame hb4 (by omega))
  have kc_4 := kc_3.keep (belowSame hb4 (by omega))
  go_wp2_with fail
  refine (eqIntSS_in _ _ x _ _ _ _ _ _ _ kg_4 kw_4).mono ?_
  rintro e w5 ⟨rfl, hb5⟩
  have n5 := hb5.size
  have B5 := B4.trans (hb5.mono (by omega))
  have ka_5 := ka_4.keep (belowSame hb5 (by omega))
  have kw_5 := kw_4.keep (belowSame hb5 (by omega))
  have kc_5 := kc_4.keep (belowSame hb5 (by omega))
  have kg_5 := kg_4.keep (belowSame hb5 (by omega))
  go_wp2_with fail
  refine (toChordS_any _ _ _ (HA.out.later B5) hn).mono ?_
  rintro e w6 ⟨vd, rfl, kd_6, hb6⟩
  have n6 := hb6.size
  have B6 := B5.trans (hb6.mono (by omega))
  have ka_6 := ka_5.keep (belowSame hb6 (by omega))
  have kw_6 := kw_5.keep (belowSame hb6 (by omega))
  have kc_6 := kc_5.keep (belowSame hb6 (by omega))
  have kg_6 := kg_5.keep (belowSame hb6 (by omega))
  go_wp2_with fail
  refine (eqChordS_in _ _ _ _ _ _ _ _ _ kc_6 kd_6).mono ?_
  rintro e w7 ⟨rfl, hb7⟩
  have n7 := hb7.size
  have B7 := B6.trans (hb7.mono (by omega))
  have ka_7 := ka_6.keep (belowSame hb7 (by omega))
  have kw_7 := kw_6.keep (belowSame hb7 (by omega))
  have kc_7 := kc_6.keep (belowSame hb7 (by omega))
  have kg_7 := kg_6.keep (belowSame hb7 (by omega))
  have kd_7 := kd_6.keep (belowSame hb7 (by omega))
  go_wp2_with fail
  refine (markChordS_in _ _ 1 _ _ _ _ kc_7 (by omega) (by omega) (by omega)).mono ?_
  rintro e w8 ⟨rfl, mc_8, o8⟩
  have n8 := o8.size
  have B8 := B7.trans (o8.below (C := w.heap.size) (by omega) (by omega))
  have ka_8 := ka_7.keep (o8.same_in (by omega) (by omega))
  have kw_8 := kw_7.keep (o8.same_in (by omega) (by omega))
  have kg_8 := kg_7.keep (o8.same_in (by omega) (by omega))
  have kd_8 := kd_7.keep (o8.same_in (by omega) (by omega))
  have kc_8 := mc_8
  go_wp2_with fail
  refine (eqIntSS_in _ _ x _ _ _ _ _ _ _ kg_8 kw_8).mono ?_
  rintro e w9 ⟨rfl, hb9⟩
  have n9 := hb9.size
  have B9 := B8.trans (hb9.mono (by omega))
  have ka_9 := ka_8.keep (belowSame hb9 (by omega))
  have kw_9 := kw_8.keep (belowSame hb9 (by omega))
  have kc_9 := kc_8.keep (belowSame hb9 (by omega))
  have kg_9 := kg_8.keep (belowSame hb9 (by omega))
  have kd_9 := kd_8.keep (belowSame hb9 (by omega))
  go_wp2_with fail
  refine (markIntSS_in _ x 1 _ _ _ _ _ kg_9 (by decide) (by omega) (by omega) (by omega) hr).mono ?_
  rintro e w10 ⟨rfl, mg_10, o10⟩
  have n10 := o10.size
  have B10 := B9.trans (o10.below (C := w.heap.size) (by omega) (by omega))
  have ka_10 := ka_9.keep (o10.same_in (by omega) (by omega))
  have kw_10 := kw_9.keep (o10.same_in (by omega) (by omega))
  have kc_10 := kc_9.keep (o10.same_in (by omega) (by omega))
  have kd_10 := kd_9.keep (o10.same_in (by omega) (by omega))
  have kg_10 := mg_10
  go_wp2_with fail
  refine (heldIntSS_in _ x 1 _ _ _ _ _ kg_10 (by omega) (by omega) (by omega) hr).mono ?_
  rintro e w11 ⟨rfl, hb11⟩
  have n11 := hb11.size
  have B11 := B10.trans (hb11.mono (by omega))
  have ka_11 := ka_10.keep (belowSame hb11 (by omega))
  have kw_11 := kw_10.keep (belowSame hb11 (by omega))
  have kc_11 := kc_10.keep (belowSame hb11 (by omega))
  have kg_11 := kg_10.keep (belowSame hb11 (by omega))
  have kd_11 := kd_10.keep (belowSame hb11 (by omega))
  go_wp2_with fail
  refine (toChordS_any _ _ _ (HA.out.later B11) hn).mono ?_
  rintro e w12 ⟨ve, rfl, ke_12, hb12⟩
  have n12 := hb12.size
  have B12 := B11.trans (hb12.mono (by omega))
  have ka_12 := ka_11.keep (belowSame hb12 (by omega))
  have kw_12 := kw_11.keep (belowSame hb12 (by omega))
  have kc_12 := kc_11.keep (belowSame hb12 (by omega))
  have kg_12 := kg_11.keep (belowSame hb12 (by omega))
  have kd_12 := kd_11.keep (belowSame hb12 (by omega))
  go_wp2_with fail
  refine (HI.out _ _ _ _ ke_12 (by omega)).mono ?_
  rintro e w13 ⟨vh, rfl, kh_13, hb13⟩
  have n13 := hb13.size
  have B13 := B12.trans (hb13.mono (by omega))
  have ka_13 := ka_12.keep (belowSame hb13 (by omega))
  have kw_13 := kw_12.keep (belowSame hb13 (by omega))
  have kc_13 := kc_12.keep (belowSame hb13 (by omega))
  have kg_13 := kg_12.keep (belowSame hb13 (by omega))
  have kd_13 := kd_12.keep (belowSame hb13 (by omega))
  have ke_13 := ke_12.keep (belowSame hb13 (by omega))
  go_wp2_with fail
  refine (eqIntSS_in _ _ x _ _ _ _ _ _ _ kh_13 kw_13).mono ?_
  rintro e w14 ⟨rfl, hb14⟩
  have n14 := hb14.size
  have B14 := B13.trans (hb14.mono (by omega))
  have ka_14 := ka_13.keep (belowSame hb14 (by omega))
  have kw_14 := kw_13.keep (belowSame hb14 (by omega))
  have kc_14 := kc_13.keep (belowSame hb14 (by omega))
  have kg_14 := kg_13.keep (belowSame hb14 (by omega))
  have kd_14 := kd_13.keep (belowSame hb14 (by omega))
  have ke_14 := ke_13.keep (belowSame hb14 (by omega))
  have kh_14 := kh_13.keep (belowSame hb14 (by omega))
  go_wp2_with fail
  refine (heldIntSS_in _ x 1 _ _ _ _ _ kg_14 (by omega) (by omega) (by omega) hr).mono ?_
  rintro e w15 ⟨rfl, hb15⟩
  have n15 := hb15.size
  have B15 := B14.trans (hb15.mono (by omega))
  have ka_15 := ka_14.keep (belowSame hb15 (by omega))
  have kw_15 := kw_14.keep (belowSame hb15 (by omega))
  have kc_15 := kc_14.keep (belowSame hb15 (by omega))
  have kg_15 := kg_14.keep (belowSame hb15 (by omega))
  have kd_15 := kd_14.keep (belowSame hb15 (by omega))
  have ke_15 := ke_14.keep (belowSame hb15 (by omega))
  have kh_15 := kh_14.keep (belowSame hb15 (by omega))
  go_wp2_with fail
  go_ret
  exact ⟨rfl, B15⟩

set_option maxHeartbeats 400000 in
theorem long_CrossingGroups (p : Int) (v : Value) (xs : List (Int × Int)) (w : World) (hA : ArgP w v xs) (hn : ¬ xs.length ≤ 1048576) :
    Calls Try.prog 3 #[.int .i64 p, v] w fun e w' => e = .returned (.bool true) ∧ Below w.heap.size w w' := by
  obtain ⟨a0, cap, a, rfl, _, hm, _⟩ := hA
  go_enter Try.func3, Try.ntmps3
  go_wp2_with fail
  refine (szChordS_no _ _ _ _ (by omega) hm).mono ?_
  rintro e w0 ⟨rfl, rfl⟩
  go_wp2_with fail
  go_ret
  exact ⟨rfl, by go_grown⟩

theorem walk_CrossingGroups (p : Int) (v : Value) (xs : List (Int × Int)) (w : World) (_ : (Lit.int .i64 p).wf = true) (hA : ArgP w v xs) :
    Calls Try.prog 3 #[.int .i64 p, v] w fun e w' => e = .returned (.bool true) ∧ Below w.heap.size w w' := by
  by_cases hn : xs.length ≤ 1048576
  · by_cases hg : goodC p xs
    · obtain ⟨hs1, hs2⟩ := resG_small xs.length (outerK (crL xs) xs.length xs.length).1 hg.2.1
      exact core_CrossingGroups p v xs _ _ w hA hn (by omega) (by omega) (fun W u B T h hT => sCrossingGroups_yes p u xs B T W h hT hg) (fun W u B T h hT => iCrossingGroups_yes p u xs B T W h hT hg)
    · exact core_CrossingGroups p v xs [] false w hA hn (by simp [cellsOf]) (by simp) (fun W u B T h hT => sCrossingGroups_no p u xs B T W h hT hg) (fun W u B T h hT => iCrossingGroups_no p u xs B T W h hT hg)
  · exact long_CrossingGroups p v xs w hA hn

end Go.Proofs.Ytinjldakmjganaa
