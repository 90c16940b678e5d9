/- Chords told anew: the model; the laws. -/
import Derived.Test.YtincoaebdmikbabY3
namespace Go.Proofs.Ytincoaebdmikbab
open Go.RowKit
set_option linter.unusedVariables false

theorem put_snoc2 (f : Int × Int → Int × Int) (xs : List (Int × Int)) (k : Nat) (h : k < xs.length) : putAll [] ((xs.take (k + 1)).map f) = putC (putAll [] ((xs.take k).map f)) (f (xs.getD k (0, 0))) := by
  rw [← putAll_snoc, List.take_succ_eq_append_getElem h, List.map_append]
  simp [List.getD, List.getElem?_eq_getElem h]

theorem put_length2 (f : Int × Int → Int × Int) (xs : List (Int × Int)) (k : Nat) : (putAll [] ((xs.take k).map f)).length ≤ xs.length := by
  have h := putAll_length [] ((xs.take k).map f)
  have e : ((xs.take k).map f).length ≤ xs.length := by rw [List.length_map, List.length_take]; omega
  exact Nat.le_trans (by simpa only [List.length_nil, Nat.zero_add] using h) e

theorem givePairs2 {w w' : World} {v : Value} {xs : List (Int × Int)} (b : Bool) {B : Nat} (hI : PairsIn 56 w' B w'.heap.size v xs) (hB : w.heap.size ≤ B) (hb : Below w.heap.size w w') : Gives (PairsIn 56) w xs b (.returned (.tuple #[v, .bool b])) w' :=
  ⟨v, rfl, hI.wider hB (Nat.le_refl _), hb⟩

set_option maxHeartbeats 1000000 in
theorem cdTurn_any (p t : Int) (u : Value) (xs : List (Int × Int)) (B T : Nat) (w : World) (h : PairsIn 56 w B T u xs) (hT : T ≤ w.heap.size) (hg : goodW p xs) (ht : 0 ≤ t ∧ t < p) :
    Calls Try.prog 45 #[.int .i64 p, u, .int .i64 t] w fun e w' => ∃ v, e = .returned v ∧ PairsIn 56 w' w.heap.size w'.heap.size v (putAll [] (xs.map (retC (fun a => (a + t) % p)))) ∧ Below w.heap.size w w' := by
  have hp := hg.1
  have hl := hg.2.1
  have HG := Lib.hid hg
  have HH := Lib.hid h
  obtain ⟨n, hnn⟩ : ∃ n, n = xs.length := ⟨_, rfl⟩
  have HNN := Lib.hid hnn
  rw [← hnn] at hl
  obtain ⟨a1, c1, g1, rfl, ha1, hmm, hx1, hy1⟩ := h.pairs.view
  have X := Lib.hid hx1
  have Y := Lib.hid hy1
  have HA := Lib.hid ha1
  rw [← hnn] at X Y HA hmm ⊢
  clear h ha1 hx1 hy1 hg hnn
  have HB0 := Lib.hid (Below.refl w.heap.size w)
  go_enter Try.func45, Try.ntmps45
  go_wp2
  go_loopw [7, 12] (fun r i wr => ∃ k : Nat, k ≤ n ∧ i = .int .i64 k ∧ PairsIn 56 wr w.heap.size wr.heap.size r (putAll [] ((xs.take k).map (retC (fun a => (a + t) % p)))) ∧ Below w.heap.size w wr) (fun _ i _ => n - (intOf i).toNat)
  case atStart => exact ⟨0, by omega, rfl, PairsIn.nil _ _ _ _, HB0.out⟩
  case round =>
    obtain ⟨k, hk, rfl, hI, hBk⟩ := hrel
    have hzk := hBk.size
    have HI := Lib.hid hI
    clear hI
    by_cases hlt : k < n
    · obtain rfl := HA.out (by omega)
      obtain ⟨x, y, hxy⟩ : ∃ x y, xs.getD k (0, 0) = (x, y) := ⟨_, _, rfl⟩
      have hor := (HG.out.2.2 k (by have := HNN.out; omega)).1
      have cx : wr.cell? ⟨g1, k * 2, none⟩ = _ := (hBk.cell (p := ⟨g1, k * 2, none⟩) (World.block_lt_of_cell? w _ (X.out k hlt))).trans (X.out k hlt)
      have cy : wr.cell? ⟨g1, k * 2 + 1, none⟩ = _ := (hBk.cell (p := ⟨g1, k * 2 + 1, none⟩) (World.block_lt_of_cell? w _ (Y.out k hlt))).trans (Y.out k hlt)
      have HN := Lib.hid (put_snoc2 (retC (fun a => (a + t) % p)) xs k (by have := HNN.out; omega))
      have hlen := put_length2 (retC (fun a => (a + t) % p)) xs k
      rw [← HNN.out] at hlen
      rw [hxy] at cx cy hor HN
      simp only at cx cy hor
      obtain ⟨o1, o2, o3⟩ := hor
      obtain ⟨rx, hrx⟩ : ∃ r, r = (x + t) % p := ⟨_, rfl⟩
      obtain ⟨ry, hry⟩ : ∃ r, r = (y + t) % p := ⟨_, rfl⟩
      have HL := Lib.hid (show retC (fun a => (a + t) % p) (x, y) = (min rx ry, max rx ry) by rw [hrx, hry]; rfl)
      have hs1 : 0 ≤ (x + t) := by omega
      have hs2 : 0 ≤ (y + t) := by omega
      have hw1 : IntKind.i64.wrap ((x + t)) = (x + t) := by rw [IntKind.wrap_i64]; omega
      have hw2 : IntKind.i64.wrap ((y + t)) = (y + t) := by rw [IntKind.wrap_i64]; omega
      have hpn : ¬ p = 0 := by omega
      have ht1 : Int.tmod ((x + t)) p = rx := by rw [hrx]; exact Int.tmod_eq_emod_of_nonneg hs1
      have ht2 : Int.tmod ((y + t)) p = ry := by rw [hry]; exact Int.tmod_eq_emod_of_nonneg hs2
      clear hrx hry hxy
      go_wp2
      go_region_held3 (fun w' => w'.cell? ⟨wr.heap.size, 0, none⟩ = some (.int .i64 x) ∧ w'.cell? ⟨wr.heap.size, 1, none⟩ = some (.int .i64 y)) (go_keep)
        (first | (go_at_call 59; (with_reducible refine (srChord_any rx ry _).mono ?_); rintro e w3 ⟨rfl, hb3⟩; (have q1 := cellB hb3 (b := wr.heap.size) (o := 0) (x := .int .i64 x) (by go_simp)); (have q2 := cellB hb3 (b := wr.heap.size) (o := 1) (x := .int .i64 y) (by go_simp)); (have hb3' : Below wr.heap.size wr w3 := Below.trans (by go_grown) (hb3.mono (by first | (simp; done) | (simp; omega)))); (have n3 := hb3'.size)) | (go_at_call 58; refine (srPut_any _ _ _ _ w.heap.size _ _ (HI.out.keep (belowSame hb3' (Nat.le_refl _))) n3 (by omega) (by omega)).mono ?_; rintro e w4 ⟨v4, rfl, hp4, hb4⟩; (have u1 := cellB hb4 q1); (have u2 := cellB hb4 q2); (have hb4' : Below wr.heap.size wr w4 := hb3'.trans (hb4.mono n3)); have HP := Lib.hid hp4; clear hp4))
      go_wp2
      go_roundw
      case rel => exact ⟨k + 1, by omega, by go_num, by rw [HN.out, HL.out]; exact HP.out, hBk.trans (hb4'.mono hzk)⟩
      case measure => simp [intOf]; omega
    · obtain rfl : k = n := by omega
      have HT := Lib.hid (show (putAll [] ((xs.take k).map (retC (fun a => (a + t) % p)))) = putAll [] (xs.map (retC (fun a => (a + t) % p))) by rw [List.take_of_length_le (by have := HNN.out; omega)])
      rw [HT.out] at HI
      go_wp2
      go_ret
      exact ⟨_, rfl, HI.out, hBk⟩

set_option maxHeartbeats 1000000 in
theorem core_TurnChords (p : Int) (v : Value) (xs : List (Int × Int)) (k : Int) (x : List (Int × Int)) (b : Bool) (w : World) (hA : ArgP w v xs) (hn : xs.length ≤ 1048576) (hx : x.length ≤ 1000000)
    (hs : ∀ (W : World) (u : Value) (B T : Nat), PairsIn 56 W B T u xs → T ≤ W.heap.size → Calls Try.prog 26 #[.int .i64 p, u, .int .i64 k] W (Gives (PairsIn 56) W x b))
    (hi : ∀ (W : World) (u : Value) (B T : Nat), PairsIn 56 W B T u xs → T ≤ W.heap.size → Calls Try.prog 28 #[.int .i64 p, u, .int .i64 k] W (Gives (PairsIn 56) W x b)) :
    Calls Try.prog 8 #[.int .i64 p, v, .int .i64 k] w fun e w' => e = .returned (.bool true) ∧ Below w.heap.size w w' := by
  have hA1 := hA
  obtain ⟨a0, cap, a, rfl, _⟩ := hA1
  have HS := Lib.hid hs
  have HI := Lib.hid hi
  have HA := Lib.hid hA
  clear hs hi hA
  go_enter Try.func8, Try.ntmps8
  go_wp2_with fail
  refine (szChordS_yes _ _ _ _ hn).mono ?_
  rintro e w0 ⟨rfl, rfl⟩
  go_wp2_with fail
  refine (toChordS_any _ _ _ (HA.out.later (by go_grown)) hn).mono ?_
  rintro e w1 ⟨va, rfl, ka_1, hb1⟩
  have n1 : w.heap.size ≤ w1.heap.size := by have := hb1.size; (try simp at this); omega
  have B1 : Below w.heap.size w w1 := Below.trans (by go_grown) (hb1.mono (by first | (simp; done) | (simp; omega)))
  go_wp2_with fail
  refine (HS.out _ _ _ _ ka_1 (by omega)).mono ?_
  rintro e w2 ⟨vw, rfl, kw_2, hb2⟩
  have n2 := hb2.size
  have B2 := B1.trans (hb2.mono (by omega))
  have ka_2 := ka_1.keep (belowSame hb2 (by omega))
  go_wp2_with fail
  refine (toChordS_any _ _ _ (HA.out.later B2) hn).mono ?_
  rintro e w3 ⟨vc, rfl, kc_3, hb3⟩
  have n3 := hb3.size
  have B3 := B2.trans (hb3.mono (by omega))
  have ka_3 := ka_2.keep (belowSame hb3 (by omega))
  have kw_3 := kw_2.keep (belowSame hb3 (by omega))
  go_wp2_with fail
  refine (HI.out _ _ _ _ kc_3 (by omega)).mono ?_
  rintro e w4 ⟨vg, rfl, kg_4, hb4⟩
  have n4 := hb4.size
  have B4 := B3.trans (hb4.mono (by omega))
  have ka_4 := ka_3.keep (belowSame hb4 (by omega))
  have kw_4 := kw_3.keep (belowSame hb4 (by omega))
  have kc_4 := kc_3.keep (belowSame hb4 (by omega))
  go_wp2_with fail
  refine (eqChordS_in _ _ _ _ _ _ _ _ _ kg_4 kw_4).mono ?_
  rintro e w5 ⟨rfl, hb5⟩
  have n5 := hb5.size
  have B5 := B4.trans (hb5.mono (by omega))
  have ka_5 := ka_4.keep (belowSame hb5 (by omega))
  have kw_5 := kw_4.keep (belowSame hb5 (by omega))
  have kc_5 := kc_4.keep (belowSame hb5 (by omega))
  have kg_5 := kg_4.keep (belowSame hb5 (by omega))
  go_wp2_with fail
  refine (toChordS_any _ _ _ (HA.out.later B5) hn).mono ?_
  rintro e w6 ⟨vd, rfl, kd_6, hb6⟩
  have n6 := hb6.size
  have B6 := B5.trans (hb6.mono (by omega))
  have ka_6 := ka_5.keep (belowSame hb6 (by omega))
  have kw_6 := kw_5.keep (belowSame hb6 (by omega))
  have kc_6 := kc_5.keep (belowSame hb6 (by omega))
  have kg_6 := kg_5.keep (belowSame hb6 (by omega))
  go_wp2_with fail
  refine (eqChordS_in _ _ _ _ _ _ _ _ _ kc_6 kd_6).mono ?_
  rintro e w7 ⟨rfl, hb7⟩
  have n7 := hb7.size
  have B7 := B6.trans (hb7.mono (by omega))
  have ka_7 := ka_6.keep (belowSame hb7 (by omega))
  have kw_7 := kw_6.keep (belowSame hb7 (by omega))
  have kc_7 := kc_6.keep (belowSame hb7 (by omega))
  have kg_7 := kg_6.keep (belowSame hb7 (by omega))
  have kd_7 := kd_6.keep (belowSame hb7 (by omega))
  go_wp2_with fail
  refine (markChordS_in _ _ 1 _ _ _ _ kc_7 (by omega) (by omega) (by omega)).mono ?_
  rintro e w8 ⟨rfl, mc_8, o8⟩
  have n8 := o8.size
  have B8 := B7.trans (o8.below (C := w.heap.size) (by omega) (by omega))
  have ka_8 := ka_7.keep (o8.same_in (by omega) (by omega))
  have kw_8 := kw_7.keep (o8.same_in (by omega) (by omega))
  have kg_8 := kg_7.keep (o8.same_in (by omega) (by omega))
  have kd_8 := kd_7.keep (o8.same_in (by omega) (by omega))
  have kc_8 := mc_8
  go_wp2_with fail
  refine (eqChordS_in _ _ _ _ _ _ _ _ _ kg_8 kw_8).mono ?_
  rintro e w9 ⟨rfl, hb9⟩
  have n9 := hb9.size
  have B9 := B8.trans (hb9.mono (by omega))
  have ka_9 := ka_8.keep (belowSame hb9 (by omega))
  have kw_9 := kw_8.keep (belowSame hb9 (by omega))
  have kc_9 := kc_8.keep (belowSame hb9 (by omega))
  have kg_9 := kg_8.keep (belowSame hb9 (by omega))
  have kd_9 := kd_8.keep (belowSame hb9 (by omega))
  go_wp2_with fail
  refine (markChordS_in _ _ 1 _ _ _ _ kg_9 (by omega) (by omega) (by omega)).mono ?_
  rintro e w10 ⟨rfl, mg_10, o10⟩
  have n10 := o10.size
  have B10 := B9.trans (o10.below (C := w.heap.size) (by omega) (by omega))
  have ka_10 := ka_9.keep (o10.same_in (by omega) (by omega))
  have kw_10 := kw_9.keep (o10.same_in (by omega) (by omega))
  have kc_10 := kc_9.keep (o10.same_in (by omega) (by omega))
  have kd_10 := kd_9.keep (o10.same_in (by omega) (by omega))
  have kg_10 := mg_10
  go_wp2_with fail
  refine (heldChordS_in _ 1 _ _ _ _ _ kg_10 (by omega) (by omega) (by omega)).mono ?_
  rintro e w11 ⟨rfl, hb11⟩
  have n11 := hb11.size
  have B11 := B10.trans (hb11.mono (by omega))
  have ka_11 := ka_10.keep (belowSame hb11 (by omega))
  have kw_11 := kw_10.keep (belowSame hb11 (by omega))
  have kc_11 := kc_10.keep (belowSame hb11 (by omega))
  have kg_11 := kg_10.keep (belowSame hb11 (by omega))
  have kd_11 := kd_10.keep (belowSame hb11 (by omega))
  go_wp2_with fail
  refine (toChordS_any _ _ _ (HA.out.later B11) hn).mono ?_
  rintro e w12 ⟨ve, rfl, ke_12, hb12⟩
  have n12 := hb12.size
  have B12 := B11.trans (hb12.mono (by omega))
  have ka_12 := ka_11.keep (belowSame hb12 (by omega))
  have kw_12 := kw_11.keep (belowSame hb12 (by omega))
  have kc_12 := kc_11.keep (belowSame hb12 (by omega))
  have kg_12 := kg_11.keep (belowSame hb12 (by omega))
  have kd_12 := kd_11.keep (belowSame hb12 (by omega))
  go_wp2_with fail
  refine (HI.out _ _ _ _ ke_12 (by omega)).mono ?_
  rintro e w13 ⟨vh, rfl, kh_13, hb13⟩
  have n13 := hb13.size
  have B13 := B12.trans (hb13.mono (by omega))
  have ka_13 := ka_12.keep (belowSame hb13 (by omega))
  have kw_13 := kw_12.keep (belowSame hb13 (by omega))
  have kc_13 := kc_12.keep (belowSame hb13 (by omega))
  have kg_13 := kg_12.keep (belowSame hb13 (by omega))
  have kd_13 := kd_12.keep (belowSame hb13 (by omega))
  have ke_13 := ke_12.keep (belowSame hb13 (by omega))
  go_wp2_with fail
  refine (eqChordS_in _ _ _ _ _ _ _ _ _ kh_13 kw_13).mono ?_
  rintro e w14 ⟨rfl, hb14⟩
  have n14 := hb14.size
  have B14 := B13.trans (hb14.mono (by omega))
  have ka_14 := ka_13.keep (belowSame hb14 (by omega))
  have kw_14 := kw_13.keep (belowSame hb14 (by omega))
  have kc_14 := kc_13.keep (belowSame hb14 (by omega))
  have kg_14 := kg_13.keep (belowSame hb14 (by omega))
  have kd_14 := kd_13.keep (belowSame hb14 (by omega))
  have ke_14 := ke_13.keep (belowSame hb14 (by omega))
  have kh_14 := kh_13.keep (belowSame hb14 (by omega))
  go_wp2_with fail
  refine (heldChordS_in _ 1 _ _ _ _ _ kg_14 (by omega) (by omega) (by omega)).mono ?_
  rintro e w15 ⟨rfl, hb15⟩
  have n15 := hb15.size
  have B15 := B14.trans (hb15.mono (by omega))
  have ka_15 := ka_14.keep (belowSame hb15 (by omega))
  have kw_15 := kw_14.keep (belowSame hb15 (by omega))
  have kc_15 := kc_14.keep (belowSame hb15 (by omega))
  have kg_15 := kg_14.keep (belowSame hb15 (by omega))
  have kd_15 := kd_14.keep (belowSame hb15 (by omega))
  have ke_15 := ke_14.keep (belowSame hb15 (by omega))
  have kh_15 := kh_14.keep (belowSame hb15 (by omega))
  go_wp2_with fail
  go_ret
  exact ⟨rfl, B15⟩

set_option maxHeartbeats 400000 in
theorem long_TurnChords (p : Int) (v : Value) (xs : List (Int × Int)) (k : Int) (w : World) (hA : ArgP w v xs) (hn : ¬ xs.length ≤ 1048576) :
    Calls Try.prog 8 #[.int .i64 p, v, .int .i64 k] w fun e w' => e = .returned (.bool true) ∧ Below w.heap.size w w' := by
  obtain ⟨a0, cap, a, rfl, _, hm, _⟩ := hA
  go_enter Try.func8, Try.ntmps8
  go_wp2_with fail
  refine (szChordS_no _ _ _ _ (by omega) hm).mono ?_
  rintro e w0 ⟨rfl, rfl⟩
  go_wp2_with fail
  go_ret
  exact ⟨rfl, by go_grown⟩

end Go.Proofs.Ytincoaebdmikbab
