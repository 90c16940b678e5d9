/- Threads with their nails exchanged. -/
import Derived.Test.YtngonpiiehmlaaaUH
import Derived.Test.YtngonpiiehmlaaaUP
import Derived.Test.YtngonpiiehmlaaaU6
import Derived.Test.YtngonpiiehmlaaaUS
namespace Go.Proofs.Ytngonpiiehmlaaa
open Go.RowKit
set_option linter.unusedVariables false

def swP (p : Int × Int) : Int × Int := (p.2, p.1)

theorem swP_inj {a b : Int × Int} (h : swP a = swP b) : a = b := by
  unfold swP at h
  rw [Prod.mk.injEq] at h
  exact Prod.ext h.2 h.1

/-- The first of them exchanged, in order. -/
def exL (xs : List (Int × Int)) (k : Nat) : List (Int × Int) := putAll [] ((xs.take k).map swP)

theorem putC_at (xs : List (Int × Int)) (c d : Int) (h : (c, d) ∉ xs) : putC xs (c, d) = putAt xs c d := by
  unfold putC
  rw [if_neg]
  · rfl
  · rintro ⟨h1, h2⟩
    rw [List.getD_eq_getElem?_getD, List.getElem?_eq_getElem h1] at h2
    simp only [Option.getD_some] at h2
    exact h (h2 ▸ List.getElem_mem h1)

theorem exL_succ {xs : List (Int × Int)} (hg : goodT xs) (k : Nat) (hk : k < xs.length) (x y : Int) (hxy : xs.getD k (0, 0) = (x, y)) : exL xs (k + 1) = putAt (exL xs k) y x := by
  have e : (xs.take (k + 1)).map swP = (xs.take k).map swP ++ [(y, x)] := by
    rw [List.take_succ_eq_append_getElem hk, List.map_append]
    have : xs[k] = (x, y) := by rw [← hxy, List.getD_eq_getElem?_getD, List.getElem?_eq_getElem hk]; rfl
    simp [this, swP]
  unfold exL
  rw [e, putAll_snoc, putC_at]
  intro hm
  rcases (mem_putAll _ _ _).1 hm with hm | hm
  · simp at hm
  · obtain ⟨p, hp, hpe⟩ := List.mem_map.1 hm
    obtain ⟨j, hj, rfl⟩ := List.getElem_of_mem hp
    rw [List.length_take] at hj
    rw [List.getElem_take] at hpe
    have h1 := good_less hg j k (by omega) hk
    have h2 : xs[j] = (x, y) := swP_inj (show swP xs[j] = swP (x, y) from hpe)
    rw [hxy, List.getD_eq_getElem?_getD, List.getElem?_eq_getElem (by omega)] at h1
    simp only [Option.getD_some] at h1
    rw [h2] at h1
    exact lessC_irrefl _ h1

theorem exL_length (xs : List (Int × Int)) (k : Nat) (h : k ≤ xs.length) : (exL xs k).length ≤ k := by
  have := putAll_length [] ((xs.take k).map swP)
  unfold exL
  rw [List.length_map, List.length_take, List.length_nil] at this
  omega

theorem good_sorted {xs : List (Int × Int)} (hg : goodT xs) : SortedC xs := by
  unfold SortedC
  rw [List.pairwise_iff_getElem]
  intro i j hi hj hij
  have := good_less hg i j hij hj
  rwa [List.getD_eq_getElem?_getD, List.getElem?_eq_getElem hi, List.getD_eq_getElem?_getD, List.getElem?_eq_getElem hj] at this

theorem sw_nodup {xs : List (Int × Int)} (hg : goodT xs) : (xs.map swP).Nodup := by
  refine List.Pairwise.map _ (fun a b hab e => ?_) (good_sorted hg)
  rw [swP_inj e] at hab
  exact lessC_irrefl _ hab

theorem sort_ex {xs : List (Int × Int)} (hg : goodT xs) : sortL (xs.map swP) = exL xs xs.length := by
  refine SortedC.ext (sortL_sorted _ (sw_nodup hg)) (putAll_sorted _ _ sortedC_nil) fun x => ?_
  rw [mem_sortL]
  unfold exL
  rw [mem_putAll, List.take_length]
  simp

set_option maxHeartbeats 1000000 in
theorem sExchange_yes (u : Value) (xs : List (Int × Int)) (B T : Nat) (w : World) (h : PairsIn 37 w B T u xs) (hT : T ≤ w.heap.size) (hg : goodT xs) :
    Calls Try.prog 42 #[u] w (Gives (PairsIn 37) w (exL xs xs.length) true) := by
  have HU := Lib.hid h
  obtain ⟨a1, c1, g1, rfl, ha1, hm, hx1, hy1⟩ := h.pairs.view
  unfold maxLen at hm
  have X := Lib.hid hx1
  have Y := Lib.hid hy1
  have HA := Lib.hid ha1
  have HG := Lib.hid hg
  have hl := hg.1.2
  clear h hx1 hy1 ha1 hg
  go_enter Try.func42, Try.ntmps42
  go_wp2_with (first
    | (go_at_call 48; (with_reducible refine (sgGood_yes _ _ B T _ HU.out HG.out).mono ?_); rintro e w1 ⟨rfl, hb1⟩; have hz1 := hb1.size))
  go_loopw [4, 12] (fun u i wr => ∃ j : Nat, j ≤ xs.length ∧ i = .int .i64 j ∧ PairsIn 37 wr w.heap.size wr.heap.size u (exL xs j) ∧ Below w.heap.size w wr) (fun _ i _ => xs.length - (intOf i).toNat)
  case atStart => exact ⟨0, by omega, rfl, PairsIn.nil _ _ _ _, hb1⟩
  case round =>
    obtain ⟨j, hj, rfl, hI, hB⟩ := hrel
    have hz := hB.size
    have HI := Lib.hid hI
    clear hI
    by_cases hlt : j < xs.length
    · obtain ⟨x, y, hxy, x1, x2, y1, y2⟩ := thread_letters HG.out j hlt
      obtain rfl := HA.out (by omega)
      have cx : wr.cell? ⟨g1, j * 2, none⟩ = _ := (hB.cell (p := ⟨g1, j * 2, none⟩) (World.block_lt_of_cell? w _ (X.out j hlt))).trans (X.out j hlt)
      have cy : wr.cell? ⟨g1, j * 2 + 1, none⟩ = _ := (hB.cell (p := ⟨g1, j * 2 + 1, none⟩) (World.block_lt_of_cell? w _ (Y.out j hlt))).trans (Y.out j hlt)
      rw [hxy] at cx cy
      simp only at cx cy
      have HN := Lib.hid (exL_succ HG.out j hlt x y hxy)
      have hlen : (exL xs j).length ≤ 30 := Nat.le_trans (exL_length xs j hj) (by omega)
      obtain ⟨L, hL⟩ : ∃ L, exL xs j = L := ⟨_, rfl⟩
      rw [hL] at HI HN hlen
      have HI2 := Lib.hid (HI.out.keep (belowSame (w' := wr.alloc (.cells #[.int .i64 x, .int .i64 y] 37)) ((Below.refl _ _).alloc (Nat.le_refl _) _) (Nat.le_refl _)))
      have HB2 := Lib.hid (hB.alloc hz (.cells #[.int .i64 x, .int .i64 y] 37))
      clear hxy hL
      go_wp2_with (first
        | (go_at_call 69; (refine (sgPut_any _ L y x w.heap.size wr.heap.size _ HI2.out (by rw [World.size_alloc]; omega) (by omega)).mono ?_); rintro e w3 ⟨v3, rfl, hp3, hb3⟩; have HP := Lib.hid hp3; clear hp3))
      go_roundw
      case rel => exact ⟨j + 1, by omega, by go_num, by rw [HN.out]; exact HP.out.wider (by simp; omega) (Nat.le_refl _), HB2.out.trans (hb3.mono (by simp; omega))⟩
      case measure => simp [intOf]; omega
    · obtain rfl : j = xs.length := by omega
      go_wp2
      go_ret2
      exact ⟨_, rfl, HI.out, hB⟩

set_option maxHeartbeats 1000000 in
theorem iExchange_yes (u : Value) (xs : List (Int × Int)) (B T : Nat) (w : World) (h : PairsIn 37 w B T u xs) (hT : T ≤ w.heap.size) (hg : goodT xs) :
    Calls Try.prog 43 #[u] w (Gives (PairsIn 37) w (exL xs xs.length) true) := by
  have HU := Lib.hid h
  obtain ⟨a1, c1, g1, rfl, ha1, hm, hx1, hy1⟩ := h.pairs.view
  unfold maxLen at hm
  have X := Lib.hid hx1
  have Y := Lib.hid hy1
  have HA := Lib.hid ha1
  have HG := Lib.hid hg
  have hl := hg.1.2
  have hmk := make_pairs (P := Try.prog) Try.underlying25 info_thread xs.length (by omega)
  obtain ⟨n, hn⟩ : ∃ n, n = xs.length := ⟨_, rfl⟩
  obtain ⟨F, hF⟩ : ∃ F : Nat → Int × Int, F = fun j => swP (xs.getD j (0, 0)) := ⟨_, rfl⟩
  have hall : (List.range n).map F = xs.map swP := by rw [hF, hn]; exact map_getD _ _ _
  have HALL := Lib.hid hall
  have HF := Lib.hid hF
  have HS := Lib.hid (sort_ex hg)
  rw [← hn] at X Y HA hl hm hmk HU HS ⊢
  have HN := Lib.hid hn
  clear h hx1 hy1 ha1 hg hF hn hall
  go_enter Try.func43, Try.ntmps43
  go_wp2_with (first
    | (go_at_call 18; (with_reducible refine (AreThreads_yes _ _ B T _ HU.out HG.out).mono ?_); rintro e w1 ⟨rfl, hb1⟩; have hz1 := hb1.size))
  go_loopw [15] (fun i wr => ∃ j : Nat, j ≤ n ∧ i = .int .i64 j ∧ Pairs wr w.heap.size 37 (.slice (some ⟨w1.heap.size, 0, none⟩) n n) (fillG F (0, 0) n j) ∧ Below w.heap.size w wr ∧ w1.heap.size < wr.heap.size) (fun i _ => n - (intOf i).toNat)
  case atStart => exact ⟨0, by omega, rfl, by rw [fillG_zero]; exact Pairs.made w1 w.heap.size _ n hz1 (by omega), hb1.alloc hz1 _, by simp⟩
  case round =>
    obtain ⟨j, hj, rfl, hI, hB, hz2⟩ := hrel
    have hz := hB.size
    by_cases hlt : j < n
    · obtain ⟨x, y, hxy, x1, x2, y1, y2⟩ := thread_letters HG.out j (by rw [← HN.out]; exact hlt)
      obtain rfl := HA.out (by omega)
      have cx : wr.cell? ⟨g1, j * 2, none⟩ = _ := (hB.cell (p := ⟨g1, j * 2, none⟩) (World.block_lt_of_cell? w _ (X.out j hlt))).trans (X.out j hlt)
      have cy : wr.cell? ⟨g1, j * 2 + 1, none⟩ = _ := (hB.cell (p := ⟨g1, j * 2 + 1, none⟩) (World.block_lt_of_cell? w _ (Y.out j hlt))).trans (Y.out j hlt)
      rw [hxy] at cx cy
      simp only at cx cy
      have hFj : F j = (y, x) := by rw [HF.out]; simp only [hxy, swP]
      have hfs := fillG_set F (0, 0) n j hlt
      rw [hFj] at hfs
      have HFS := Lib.hid hfs
      have HST := Lib.hid (hI.stored j (by rw [fillG_length _ _ _ _ hj]; omega) y x)
      have d0 := hI.cell0 j (by rw [fillG_length _ _ _ _ hj]; omega)
      have d1 := hI.cell1 j (by rw [fillG_length _ _ _ _ hj]; omega)
      have f0 := hI.frozenAt (j * 2)
      have f1 := hI.frozenAt (j * 2 + 1)
      have ne1 : ¬ w1.heap.size = wr.heap.size := by omega
      have ne2 : ¬ wr.heap.size = w1.heap.size := by omega
      have HB3 := Lib.hid (hI.below hB (by omega) HST.out.2)
      generalize ((fillG F (0, 0) n j).getD j (0, 0)).1 = o1 at d0
      generalize ((fillG F (0, 0) n j).getD j (0, 0)).2 = o2 at d1
      clear hxy hfs hFj hI hB
      go_wp2
      go_roundw
      case rel => exact ⟨j + 1, by omega, by go_num, by rw [← HFS.out]; exact HST.out.1.later ((Below.refl _ _).alloc (Nat.le_refl _) _), HB3.out.alloc (by simp; omega) _, by simp; omega⟩
      case measure => simp [intOf]; omega
    · obtain rfl : j = n := by omega
      rw [fillG_all, HALL.out] at hI
      have HI := Lib.hid hI
      clear hI
      go_wp2_with (first | (go_at_call 70; refine (sortT_any _ (xs.map swP) w.heap.size _ HI.out (by rw [List.length_map, ← HN.out]; omega)).mono ?_; rintro e w2 ⟨rfl, hp2, hg2⟩; rw [HS.out] at hp2; have HP2 := Lib.hid hp2; have HG2 := Lib.hid hg2; clear hp2 hg2))
      go_ret2
      exact ⟨_, rfl, HP2.out.inn, hB.grown HG2.out (by omega) (fun k hk => (HI.out.own k hk).1)⟩

set_option maxHeartbeats 400000 in
theorem sExchange_no (u : Value) (xs : List (Int × Int)) (B T : Nat) (w : World) (h : PairsIn 37 w B T u xs) (hT : T ≤ w.heap.size) (hg : ¬ goodT xs) :
    Calls Try.prog 42 #[u] w (Gives (PairsIn 37) w [] false) := by
  go_enter Try.func42, Try.ntmps42
  go_wp2_with (first | (go_at_call 48; (with_reducible refine (sgGood_no u xs B T _ h hg).mono ?_); rintro e w1 ⟨rfl, hb1⟩))
  go_ret2
  exact ⟨_, rfl, PairsIn.nil _ _ _ _, hb1⟩

set_option maxHeartbeats 400000 in
theorem iExchange_no (u : Value) (xs : List (Int × Int)) (B T : Nat) (w : World) (h : PairsIn 37 w B T u xs) (hT : T ≤ w.heap.size) (hg : ¬ goodT xs) :
    Calls Try.prog 43 #[u] w (Gives (PairsIn 37) w [] false) := by
  go_enter Try.func43, Try.ntmps43
  go_wp2_with (first | (go_at_call 18; (with_reducible refine (AreThreads_no u xs B T _ h hg).mono ?_); rintro e w1 ⟨rfl, hb1⟩))
  go_ret2
  exact ⟨_, rfl, PairsIn.nil _ _ _ _, hb1⟩

set_option maxHeartbeats 1000000 in
theorem core_ExchangeThreads (v : Value) (xs : List (Int × Int)) (x : List (Int × Int)) (b : Bool) (w : World) (hA : ArgP w v xs) (hn : xs.length ≤ 1048576) (hx : x.length ≤ 1000000)
    (hs : ∀ (W : World) (u : Value) (B T : Nat), PairsIn 37 W B T u xs → T ≤ W.heap.size → Calls Try.prog 42 #[u] W (Gives (PairsIn 37) W x b))
    (hi : ∀ (W : World) (u : Value) (B T : Nat), PairsIn 37 W B T u xs → T ≤ W.heap.size → Calls Try.prog 43 #[u] W (Gives (PairsIn 37) W x b)) :
    Calls Try.prog 12 #[v] w fun e w' => e = .returned (.bool true) ∧ Below w.heap.size w w' := by
  have hA1 := hA
  obtain ⟨a0, cap, a, rfl, _⟩ := hA1
  have HS := Lib.hid hs
  have HI := Lib.hid hi
  have HA := Lib.hid hA
  clear hs hi hA
  go_enter Try.func12, Try.ntmps12
  go_wp2_with fail
  refine (szThreadS_yes _ _ _ _ hn).mono ?_
  rintro e w0 ⟨rfl, rfl⟩
  go_wp2_with fail
  refine (toThreadS_any _ _ _ (HA.out.later (by go_grown)) hn).mono ?_
  rintro e w1 ⟨va, rfl, ka_1, hb1⟩
  have n1 : w.heap.size ≤ w1.heap.size := by have := hb1.size; (try simp at this); omega
  have B1 : Below w.heap.size w w1 := Below.trans (by go_grown) (hb1.mono (by first | (simp; done) | (simp; omega)))
  go_wp2_with fail
  refine (HS.out _ _ _ _ ka_1 (by omega)).mono ?_
  rintro e w2 ⟨vw, rfl, kw_2, hb2⟩
  have n2 := hb2.size
  have B2 := B1.trans (hb2.mono (by omega))
  have ka_2 := ka_1.keep (belowSame hb2 (by omega))
  go_wp2_with fail
  refine (toThreadS_any _ _ _ (HA.out.later B2) hn).mono ?_
  rintro e w3 ⟨vc, rfl, kc_3, hb3⟩
  have n3 := hb3.size
  have B3 := B2.trans (hb3.mono (by omega))
  have ka_3 := ka_2.keep (belowSame hb3 (by omega))
  have kw_3 := kw_2.keep (belowSame hb3 (by omega))
  go_wp2_with fail
  refine (HI.out _ _ _ _ kc_3 (by omega)).mono ?_
  rintro e w4 ⟨vg, rfl, kg_4, hb4⟩
  have n4 := hb4.size
  have B4 := B3.trans (hb4.mono (by omega))
  have ka_4 := ka_3.keep (belowSame hb4 (by omega))
  have kw_4 := kw_3.keep (belowSame hb4 (by omega))
  have kc_4 := kc_3.keep (belowSame hb4 (by omega))
  go_wp2_with fail
  refine (eqThreadS_in _ _ _ _ _ _ _ _ _ kg_4 kw_4).mono ?_
  rintro e w5 ⟨rfl, hb5⟩
  have n5 := hb5.size
  have B5 := B4.trans (hb5.mono (by omega))
  have ka_5 := ka_4.keep (belowSame hb5 (by omega))
  have kw_5 := kw_4.keep (belowSame hb5 (by omega))
  have kc_5 := kc_4.keep (belowSame hb5 (by omega))
  have kg_5 := kg_4.keep (belowSame hb5 (by omega))
  go_wp2_with fail
  refine (toThreadS_any _ _ _ (HA.out.later B5) hn).mono ?_
  rintro e w6 ⟨vd, rfl, kd_6, hb6⟩
  have n6 := hb6.size
  have B6 := B5.trans (hb6.mono (by omega))
  have ka_6 := ka_5.keep (belowSame hb6 (by omega))
  have kw_6 := kw_5.keep (belowSame hb6 (by omega))
  have kc_6 := kc_5.keep (belowSame hb6 (by omega))
  have kg_6 := kg_5.keep (belowSame hb6 (by omega))
  go_wp2_with fail
  refine (eqThreadS_in _ _ _ _ _ _ _ _ _ kc_6 kd_6).mono ?_
  rintro e w7 ⟨rfl, hb7⟩
  have n7 := hb7.size
  have B7 := B6.trans (hb7.mono (by omega))
  have ka_7 := ka_6.keep (belowSame hb7 (by omega))
  have kw_7 := kw_6.keep (belowSame hb7 (by omega))
  have kc_7 := kc_6.keep (belowSame hb7 (by omega))
  have kg_7 := kg_6.keep (belowSame hb7 (by omega))
  have kd_7 := kd_6.keep (belowSame hb7 (by omega))
  go_wp2_with fail
  refine (markThreadS_in _ _ 1 _ _ _ _ kc_7 (by omega) (by omega) (by omega)).mono ?_
  rintro e w8 ⟨rfl, mc_8, o8⟩
  have n8 := o8.size
  have B8 := B7.trans (o8.below (C := w.heap.size) (by omega) (by omega))
  have ka_8 := ka_7.keep (o8.same_in (by omega) (by omega))
  have kw_8 := kw_7.keep (o8.same_in (by omega) (by omega))
  have kg_8 := kg_7.keep (o8.same_in (by omega) (by omega))
  have kd_8 := kd_7.keep (o8.same_in (by omega) (by omega))
  have kc_8 := mc_8
  go_wp2_with fail
  refine (eqThreadS_in _ _ _ _ _ _ _ _ _ kg_8 kw_8).mono ?_
  rintro e w9 ⟨rfl, hb9⟩
  have n9 := hb9.size
  have B9 := B8.trans (hb9.mono (by omega))
  have ka_9 := ka_8.keep (belowSame hb9 (by omega))
  have kw_9 := kw_8.keep (belowSame hb9 (by omega))
  have kc_9 := kc_8.keep (belowSame hb9 (by omega))
  have kg_9 := kg_8.keep (belowSame hb9 (by omega))
  have kd_9 := kd_8.keep (belowSame hb9 (by omega))
  go_wp2_with fail
  refine (markThreadS_in _ _ 1 _ _ _ _ kg_9 (by omega) (by omega) (by omega)).mono ?_
  rintro e w10 ⟨rfl, mg_10, o10⟩
  have n10 := o10.size
  have B10 := B9.trans (o10.below (C := w.heap.size) (by omega) (by omega))
  have ka_10 := ka_9.keep (o10.same_in (by omega) (by omega))
  have kw_10 := kw_9.keep (o10.same_in (by omega) (by omega))
  have kc_10 := kc_9.keep (o10.same_in (by omega) (by omega))
  have kd_10 := kd_9.keep (o10.same_in (by omega) (by omega))
  have kg_10 := mg_10
  go_wp2_with fail
  refine (heldThreadS_in _ 1 _ _ _ _ _ kg_10 (by omega) (by omega) (by omega)).mono ?_
  rintro e w11 ⟨rfl, hb11⟩
  have n11 := hb11.size
  have B11 := B10.trans (hb11.mono (by omega))
  have ka_11 := ka_10.keep (belowSame hb11 (by omega))
  have kw_11 := kw_10.keep (belowSame hb11 (by omega))
  have kc_11 := kc_10.keep (belowSame hb11 (by omega))
  have kg_11 := kg_10.keep (belowSame hb11 (by omega))
  have kd_11 := kd_10.keep (belowSame hb11 (by omega))
  go_wp2_with fail
  refine (toThreadS_any _ _ _ (HA.out.later B11) hn).mono ?_
  rintro e w12 ⟨ve, rfl, ke_12, hb12⟩
  have n12 := hb12.size
  have B12 := B11.trans (hb12.mono (by omega))
  have ka_12 := ka_11.keep (belowSame hb12 (by omega))
  have kw_12 := kw_11.keep (belowSame hb12 (by omega))
  have kc_12 := kc_11.keep (belowSame hb12 (by omega))
  have kg_12 := kg_11.keep (belowSame hb12 (by omega))
  have kd_12 := kd_11.keep (belowSame hb12 (by omega))
  go_wp2_with fail
  refine (HI.out _ _ _ _ ke_12 (by omega)).mono ?_
  rintro e w13 ⟨vh, rfl, kh_13, hb13⟩
  have n13 := hb13.size
  have B13 := B12.trans (hb13.mono (by omega))
  have ka_13 := ka_12.keep (belowSame hb13 (by omega))
  have kw_13 := kw_12.keep (belowSame hb13 (by omega))
  have kc_13 := kc_12.keep (belowSame hb13 (by omega))
  have kg_13 := kg_12.keep (belowSame hb13 (by omega))
  have kd_13 := kd_12.keep (belowSame hb13 (by omega))
  have ke_13 := ke_12.keep (belowSame hb13 (by omega))
  go_wp2_with fail
  refine (eqThreadS_in _ _ _ _ _ _ _ _ _ kh_13 kw_13).mono ?_
  rintro e w14 ⟨rfl, hb14⟩
  have n14 := hb14.size
  have B14 := B13.trans (hb14.mono (by omega))
  have ka_14 := ka_13.keep (belowSame hb14 (by omega))
  have kw_14 := kw_13.keep (belowSame hb14 (by omega))
  have kc_14 := kc_13.keep (belowSame hb14 (by omega))
  have kg_14 := kg_13.keep (belowSame hb14 (by omega))
  have kd_14 := kd_13.keep (belowSame hb14 (by omega))
  have ke_14 := ke_13.keep (belowSame hb14 (by omega))
  have kh_14 := kh_13.keep (belowSame hb14 (by omega))
  go_wp2_with fail
  refine (heldThreadS_in _ 1 _ _ _ _ _ kg_14 (by omega) (by omega) (by omega)).mono ?_
  rintro e w15 ⟨rfl, hb15⟩
  have n15 := hb15.size
  have B15 := B14.trans (hb15.mono (by omega))
  have ka_15 := ka_14.keep (belowSame hb15 (by omega))
  have kw_15 := kw_14.keep (belowSame hb15 (by omega))
  have kc_15 := kc_14.keep (belowSame hb15 (by omega))
  have kg_15 := kg_14.keep (belowSame hb15 (by omega))
  have kd_15 := kd_14.keep (belowSame hb15 (by omega))
  have ke_15 := ke_14.keep (belowSame hb15 (by omega))
  have kh_15 := kh_14.keep (belowSame hb15 (by omega))
  go_wp2_with fail
  go_ret
  exact ⟨rfl, B15⟩

set_option maxHeartbeats 400000 in
theorem long_ExchangeThreads (v : Value) (xs : List (Int × Int)) (w : World) (hA : ArgP w v xs) (hn : ¬ xs.length ≤ 1048576) :
    Calls Try.prog 12 #[v] w fun e w' => e = .returned (.bool true) ∧ Below w.heap.size w w' := by
  obtain ⟨a0, cap, a, rfl, _, hm, _⟩ := hA
  go_enter Try.func12, Try.ntmps12
  go_wp2_with fail
  refine (szThreadS_no _ _ _ _ (by omega) hm).mono ?_
  rintro e w0 ⟨rfl, rfl⟩
  go_wp2_with fail
  go_ret
  exact ⟨rfl, by go_grown⟩

theorem walk_ExchangeThreads (v : Value) (xs : List (Int × Int)) (w : World) (hA : ArgP w v xs) :
    Calls Try.prog 12 #[v] w fun e w' => e = .returned (.bool true) ∧ Below w.heap.size w w' := by
  by_cases hn : xs.length ≤ 1048576
  · by_cases hg : goodT xs
    · exact core_ExchangeThreads v xs _ true w hA hn (by have := exL_length xs xs.length (Nat.le_refl _); have := hg.1.2; omega) (fun W u B T h hT => sExchange_yes u xs B T W h hT hg) (fun W u B T h hT => iExchange_yes u xs B T W h hT hg)
    · exact core_ExchangeThreads v xs [] false w hA hn (by simp) (fun W u B T h hT => sExchange_no u xs B T W h hT hg) (fun W u B T h hT => iExchange_no u xs B T W h hT hg)
  · exact long_ExchangeThreads v xs w hA hn

end Go.Proofs.Ytngonpiiehmlaaa
