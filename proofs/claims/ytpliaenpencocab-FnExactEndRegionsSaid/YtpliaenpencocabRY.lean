/- EndRegions: the model, the law. -/
import Derived.Test.YtpliaenpencocabRX
namespace Go.Proofs.Ytpliaenpencocab
open Go.RowKit
set_option linter.unusedVariables false

set_option maxHeartbeats 2000000 in
theorem sEndR_yes (n : Nat) (a0 : Option Addr) (cap : Nat) (xs : List (Int × Int)) (B T : Nat) (w : World) (h : PairsIn 67 w B T (.slice a0 xs.length cap) xs) (hT : T ≤ w.heap.size) (hg : goodC n xs) (hpl : allP xs xs.length = []) :
    Calls Try.prog 22 #[.int .i64 n, .slice a0 xs.length cap] w (Gives (IntsIn 3) w (endL (allN (regL n xs) (regL n xs).length) (xs.length + 1)) true) := by
  have hxl := hg.2.1
  have HS := Lib.hid (plane_yes (p := n) hpl)
  have HAT := Lib.hid (nextL_at hg hpl)
  have hNL := nextL_length hg hpl
  have HTW := Lib.hid (fun (p : List Int) (hp : p ∈ allN (regL n xs) (regL n xs).length) => nextL_two hp)
  have hHN := Lib.hid (fun u B T W hW1 hW2 => reNext_any n u xs B T W hW1 hW2 hg hpl)
  obtain ⟨N, hN⟩ : ∃ N, allN (regL n xs) (regL n xs).length = N := ⟨_, rfl⟩
  rw [hN] at HAT hNL HTW hHN ⊢
  have hN40 : N.length ≤ 40 := by omega
  obtain ⟨m, hm⟩ : ∃ m, xs.length + 1 = m := ⟨_, rfl⟩
  rw [hm] at HAT ⊢
  have hm41 : m ≤ 41 := by omega
  have hm1 : 1 ≤ m := by omega
  have hw1 : IntKind.i64.wrap (1 + (xs.length : Int)) = (m : Int) := by rw [IntKind.wrap_i64]; omega
  have hmk := make_ints (P := Try.prog) Try.underlying46 info_int m (by omega)
  clear hN hNL hm
  go_enter Try.func22, Try.ntmps22
  go_wp2_with (first
    | (go_at_call 40; (refine (planeM_yes n _ _ xs B T _ h hT hg).mono ?_); rw [HS.out]; rintro e w1 ⟨rfl, hB1⟩; have hz1 := hB1.size)
    | (go_at_call 41; (refine (hHN.out _ B T _ (h.keep (belowSame (Below.trans hB1 (by go_grown)) hT)) (by simp; omega)).mono ?_); rintro e w2 ⟨v, rfl, hI, hb2⟩; (have hI0 := Lib.hid ((Ints.made w1 w1.heap.size 3 m (Nat.le_refl _) (by omega)).later hb2)); (have hB2 : Below w1.heap.size w1 w2 := Below.trans (by go_grown) (hb2.mono (by simp))); have hz2 := hb2.size; obtain ⟨vN, hR⟩ := hI; obtain ⟨ar, cr, gr, rfl, har, _, hcrr, _⟩ := hR.view; have HR := Lib.hid hR; have HAR := Lib.hid har; have HCRR := Lib.hid hcrr; clear hR har hcrr))
  go_loopw [24] (fun i wr => ∃ j : Nat, j ≤ N.length ∧ i = .int .i64 (j : Int) ∧ Hid (Ints wr w1.heap.size 3 (.slice (some ⟨w1.heap.size, 0, none⟩) m m) (timesN N m j)) ∧ Hid (Only w1.heap.size (w1.heap.size + 1) w2 wr)) (fun i _ => N.length - (intOf i).toNat)
  case atStart => exact ⟨0, by omega, rfl, hI0, Lib.hid (Only.refl _ _ _)⟩
  case round =>
    obtain ⟨j, hj, rfl, HI, HO⟩ := hrel
    have hzr := HO.out.size
    by_cases hlt : j < N.length
    · obtain rfl := HAR.out (by omega)
      obtain ⟨a, b, ha, hb, hab⟩ := HAT.out j hlt
      have e0 := HCRR.out j hlt
      have hrow := HR.out.rows j hlt
      have hgr := HR.out.outer.lt gr rfl
      rw [hab] at hrow
      obtain ⟨rv, hrv⟩ : ∃ rv, vN.getD j (Value.slice none 0 0) = rv := ⟨_, rfl⟩
      rw [hrv] at hrow e0
      obtain ⟨a3, c3, g3, rfl, ha3, _, _, _, hc3, _⟩ := hrow.1.view
      obtain rfl := ha3 (by simp)
      have hg3 := hrow.1.own g3 rfl
      simp only [World.size_alloc] at hgr hg3
      have p0 : w2.cell? ⟨g3, 0, none⟩ = some (.int .i64 (a : Int)) := hc3 0 (by simp)
      have p1 : w2.cell? ⟨g3, 1, none⟩ = some (.int .i64 (b : Int)) := hc3 1 (by simp)
      have e1 := HO.out.cell (.inr (by omega)) e0
      have P0 := HO.out.cell (.inr (by omega)) p0
      have P1 := HO.out.cell (.inr (by omega)) p1
      have hst := timesN_succ N m j hlt
      rw [hab] at hst
      have hbd := timesN_bnd (m := m) HTW.out j hj
      obtain ⟨cs, hcs⟩ : ∃ cs, timesN N m j = cs := ⟨_, rfl⟩
      rw [hcs] at HI hst hbd
      have d0 := HI.out.cellAt a (by have := hbd.1; omega)
      have f0 := HI.out.frozenAt a
      have hv := hbd.2 a
      obtain ⟨old, hold⟩ : ∃ old, cs.getD a 0 = old := ⟨_, rfl⟩
      rw [hold] at d0 hv
      have hw : IntKind.i64.wrap (old + 1) = old + 1 := by rw [IntKind.wrap_i64]; omega
      have HS1 := Lib.hid (HI.out.stored a (old + 1))
      have hbd2 := incN_bnd hbd a
      have hin : incN cs a = cs.set a (old + 1) := by unfold incN; rw [hold]
      rw [hin] at hbd2
      have d1 := HS1.out.1.cellAt b (by have := hbd2.1; omega)
      have f1 := HS1.out.1.frozenAt b
      have hv2 := hbd2.2 b
      obtain ⟨old2, hold2⟩ : ∃ old2, (cs.set a (old + 1)).getD b 0 = old2 := ⟨_, rfl⟩
      rw [hold2] at d1 hv2
      have hw2 : IntKind.i64.wrap (old2 + 1) = old2 + 1 := by rw [IntKind.wrap_i64]; omega
      have hin2 : incN (cs.set a (old + 1)) b = (cs.set a (old + 1)).set b (old2 + 1) := by unfold incN; rw [hold2]
      have HS2 := Lib.hid (HS1.out.1.stored b (old2 + 1))
      have hgo : Only w1.heap.size (w1.heap.size + 1) wr (wr.setCell ⟨w1.heap.size, a, none⟩ (.int .i64 (old + 1))) := Only.of_grown (v := Value.slice (some ⟨w1.heap.size, 0, none⟩) m m) HS1.out.2 (fun k hk => by simp [Value.ownBlock] at hk; omega)
      have HG2 := Lib.hid (hgo.trans (Only.of_grown (v := Value.slice (some ⟨w1.heap.size, 0, none⟩) m m) HS2.out.2 (fun k hk => by simp [Value.ownBlock] at hk; omega)))
      have q0 := hgo.cell (.inr (by omega)) P0
      have q1 := hgo.cell (.inr (by omega)) P1
      have HST := Lib.hid (show timesN N m (j + 1) = (cs.set a (old + 1)).set b (old2 + 1) by rw [hst, ← hin2, ← hin]; rfl)
      have j1 : 0 ≤ (j : Int) := by omega
      have j2 : (j : Int) < (N.length : Int) := by omega
      have a1 : 0 ≤ (a : Int) := by omega
      have a2 : (a : Int) < (m : Int) := by omega
      have b1 : 0 ≤ (b : Int) := by omega
      have b2 : (b : Int) < (m : Int) := by omega
      have HON := Lib.hid HO.out
      clear hrow hrv hc3 ha3 e0 p0 p1 hab hst hbd hcs hold hin hbd2 hold2 hin2 hv hv2 hgo HO HI
      go_wp2
      go_roundw
      case rel => exact ⟨j + 1, by omega, by go_num, Lib.hid (by rw [HST.out]; exact HS2.out.1), Lib.hid (HON.out.trans HG2.out)⟩
      case measure => simp [intOf]; omega
    · obtain rfl : j = N.length := by omega
      have hbd := timesN_bnd (m := m) HTW.out N.length hj
      obtain ⟨cs, hcs⟩ : ∃ cs, timesN N m N.length = cs := ⟨_, rfl⟩
      have HEC : Hid (∀ k, endC N m k = (cs.getD k 0 == 1)) := Lib.hid (fun k => by unfold endC; rw [hcs])
      rw [hcs] at HI hbd
      have HC := Lib.hid (fun i (hi : i < m) => HI.out.cellAt i (by have := hbd.1; omega))
      have hB3 : Below w.heap.size w wr := (hB1.trans (hB2.mono hz1)).trans (HO.out.below (by omega) (by have := hB2.size; omega))
      have hz3 := hB3.size
      obtain ⟨wo, rfl⟩ : ∃ q, q = wr := ⟨wr, rfl⟩
      clear HI HO hbd hcs hzr hlt hj
      go_wp2
      go_loopw [9, 47] (fun u i wr => ∃ k : Nat, k ≤ m ∧ i = .int .i64 (k : Int) ∧ Ints wr wo.heap.size 3 u (selT (endC N m) k) ∧ Below wo.heap.size wo wr) (fun _ i _ => m - (intOf i).toNat)
      case atStart => exact ⟨0, by omega, rfl, World.ownsRow_nil _ _ _ _, Below.refl _ _⟩
      case round =>
        obtain ⟨k, hk, rfl, hI, hB⟩ := hrel
        have HI := Lib.hid hI
        have hz := hB.size
        clear hI
        by_cases hlt : k < m
        · have hlen := selT_length (endC N m) k
          have cc := cellB hB (HC.out k hlt)
          have hec := HEC.out k
          obtain ⟨x, hx⟩ : ∃ x, cs.getD k 0 = x := ⟨_, rfl⟩
          rw [hx] at cc hec
          have k1 : 0 ≤ (k : Int) := by omega
          have k2 : (k : Int) < (m : Int) := by omega
          clear hx
          by_cases h1 : x = 1
          · subst h1
            have HF := Lib.hid (selT_yes (endC N m) k (by rw [hec]; rfl))
            clear hec
            go_wp2_with (at_builtin; refine wpList_append_int rfl _ _ 46 rfl (wo.heap.size) 3 Try.underlying46 info_int _ _ rfl HI.out ((k : Int)) rfl (by omega) (by omega) ?_; intro v' w' hI' hg';  have hB' := HI.out.below hB hz hg'; rw [HF.out] at hI'; have HI' := Lib.hid hI'; clear hI' hB)
            go_roundw
            case rel => exact ⟨k + 1, by omega, by go_num, HI'.out, hB'⟩
            case measure => simp [intOf]; omega
          · have h2 : (x == 1) = false := beq_eq_false_iff_ne.2 h1
            have HF := Lib.hid (selT_no (endC N m) k (by rw [hec, h2]))
            clear hec
            go_wp2
            go_roundw
            case rel => exact ⟨k + 1, by omega, by go_num, by rw [← HF.out]; exact HI.out, hB⟩
            case measure => simp [intOf]; omega
        · obtain rfl : k = m := by omega
          go_wp2
          go_ret2
          exact ⟨_, rfl, ⟨HI.out.mono hz3, fun q hq => (HI.out.own q hq).2⟩, hB3.trans (hB.mono hz3)⟩

set_option maxHeartbeats 400000 in
theorem told_ends (n : Nat) (a0 : Option Addr) (cap : Nat) (xs : List (Int × Int)) (B T : Nat) (w : World) (h : PairsIn 67 w B T (.slice a0 xs.length cap) xs) (hT : T ≤ w.heap.size) (hg : goodC n xs) (hpl : allP xs xs.length = []) : Calls Try.prog 47 #[.int .i64 n, .slice a0 xs.length cap, .func (.func 44) #[] #[], .func (.func 48) #[] #[]] w (Gives (IntsIn 3) w (endL (allN (regL n xs) (regL n xs).length) (xs.length + 1)) true) := by
  have HS := Lib.hid (plane_yes (p := n) hpl)
  go_enter Try.func47, Try.ntmps47
  go_wp2_with (first | (go_at_call 44; (refine (isPlaneD_yes n _ _ xs B T _ (h.keep (belowSame (by go_grown) hT)) (Nat.le_trans hT (by first | (simp; done) | (simp; omega))) hg).mono ?_); rw [HS.out]; rintro e w1 ⟨rfl, hb1⟩; (have c0 : w1.cell? ⟨w.heap.size, 0, none⟩ = some (.int .i64 n) := cellB hb1 (by go_simp)); (have c1 : w1.cell? ⟨w.heap.size, 1, none⟩ = some (.slice a0 xs.length cap) := cellB hb1 (by go_simp)); (have hB1 : Below w.heap.size w w1 := Below.trans (by go_grown) (hb1.mono (by first | omega | (simp; done) | (simp; omega)))); have hz1 := hB1.size) | (go_at_call 48; (with_reducible refine (endRegions_any n _ _ xs B T _ (h.keep (belowSame hB1 hT)) (by omega) hg hpl).mono ?_); rintro e w2 ⟨v, rfl, hI, hb2⟩))
  go_ret2
  exact ⟨_, rfl, ⟨hI.mono hz1, fun q hq => (hI.own q hq).2⟩, hB1.trans (hb2.mono hz1)⟩

set_option maxHeartbeats 400000 in
theorem iEndR_yes (n : Nat) (a0 : Option Addr) (cap : Nat) (xs : List (Int × Int)) (B T : Nat) (w : World) (h : PairsIn 67 w B T (.slice a0 xs.length cap) xs) (hT : T ≤ w.heap.size) (hg : goodC n xs) (hpl : allP xs xs.length = []) : Calls Try.prog 23 #[.int .i64 n, .slice a0 xs.length cap] w (Gives (IntsIn 3) w (endL (allN (regL n xs) (regL n xs).length) (xs.length + 1)) true) := by
  go_enter Try.func23, Try.ntmps23
  go_wp2_with (first | (go_at_call 47; (with_reducible refine (told_ends n _ _ xs B T _ h hT hg hpl).mono ?_); rintro e w1 ⟨v, rfl, hI, hb1⟩))
  go_ret2
  exact ⟨_, rfl, hI, hb1⟩

set_option maxHeartbeats 400000 in
theorem iEndR_not (p : Int) (a0 : Option Addr) (cap : Nat) (xs : List (Int × Int)) (B T : Nat) (w : World) (h : PairsIn 67 w B T (.slice a0 xs.length cap) xs) (hT : T ≤ w.heap.size) (hg : goodC p xs) (hpl : ¬ allP xs xs.length = []) : Calls Try.prog 23 #[.int .i64 p, .slice a0 xs.length cap] w (Gives (IntsIn 3) w [] false) := by
  go_enter Try.func23, Try.ntmps23
  go_wp2_with (first | (go_at_call 47; (with_reducible refine (told_IS_not p _ _ xs B T _ h hT _ hg hpl).mono ?_); rintro e w1 ⟨v, rfl, hI, hb1⟩))
  go_ret2
  exact ⟨_, rfl, hI, hb1⟩

set_option maxHeartbeats 400000 in
theorem iEndR_bad (p : Int) (a0 : Option Addr) (cap : Nat) (xs : List (Int × Int)) (B T : Nat) (w : World) (h : PairsIn 67 w B T (.slice a0 xs.length cap) xs) (hT : T ≤ w.heap.size) (hg : ¬ goodC p xs) : Calls Try.prog 23 #[.int .i64 p, .slice a0 xs.length cap] w (Gives (IntsIn 3) w [] false) := by
  go_enter Try.func23, Try.ntmps23
  go_wp2_with (first | (go_at_call 47; (with_reducible refine (told_IS_bad p _ _ xs B T _ h hT _ hg).mono ?_); rintro e w1 ⟨v, rfl, hI, hb1⟩))
  go_ret2
  exact ⟨_, rfl, hI, hb1⟩

set_option maxHeartbeats 400000 in
theorem sEndR_not (p : Int) (a0 : Option Addr) (cap : Nat) (xs : List (Int × Int)) (B T : Nat) (w : World) (h : PairsIn 67 w B T (.slice a0 xs.length cap) xs) (hT : T ≤ w.heap.size) (hg : goodC p xs) (hpl : ¬ allP xs xs.length = []) : Calls Try.prog 22 #[.int .i64 p, .slice a0 xs.length cap] w (Gives (IntsIn 3) w [] false) := by
  have HS := Lib.hid (plane_no (p := p) hpl)
  go_enter Try.func22, Try.ntmps22
  go_wp2_with (first | (go_at_call 40; (refine (planeM_yes p _ _ xs B T _ h hT hg).mono ?_); rw [HS.out]; rintro e w1 ⟨rfl, hb1⟩))
  go_ret2
  exact ⟨_, rfl, IntsIn.nil _ _ _ _, hb1⟩

set_option maxHeartbeats 400000 in
theorem sEndR_bad (p : Int) (a0 : Option Addr) (cap : Nat) (xs : List (Int × Int)) (B T : Nat) (w : World) (h : PairsIn 67 w B T (.slice a0 xs.length cap) xs) (hT : T ≤ w.heap.size) (hg : ¬ goodC p xs) : Calls Try.prog 22 #[.int .i64 p, .slice a0 xs.length cap] w (Gives (IntsIn 3) w [] false) := by
  go_enter Try.func22, Try.ntmps22
  go_wp2_with (first | (go_at_call 40; (with_reducible refine (planeM_no p _ _ xs B T _ h hT hg).mono ?_); rintro e w1 ⟨rfl, hb1⟩))
  go_ret2
  exact ⟨_, rfl, IntsIn.nil _ _ _ _, hb1⟩

set_option maxHeartbeats 1000000 in
theorem core_EndRegions (p : Int) (v : Value) (xs : List (Int × Int)) (x : List Int) (b : Bool) (w : World) (hA : ArgP w v xs) (hn : xs.length ≤ 1048576) (hx : x.length ≤ 1000000)
    (hs : ∀ (W : World) (u : Value) (B T : Nat), PairsIn 67 W B T u xs → T ≤ W.heap.size → Calls Try.prog 22 #[.int .i64 p, u] W (Gives (IntsIn 3) W x b))
    (hi : ∀ (W : World) (u : Value) (B T : Nat), PairsIn 67 W B T u xs → T ≤ W.heap.size → Calls Try.prog 23 #[.int .i64 p, u] W (Gives (IntsIn 3) W x b)) :
    Calls Try.prog 5 #[.int .i64 p, v] w fun e w' => e = .returned (.bool true) ∧ Below w.heap.size w w' := by
  have hA1 := hA
  obtain ⟨a0, cap, a, rfl, _⟩ := hA1
  have HS := Lib.hid hs
  have HI := Lib.hid hi
  have HA := Lib.hid hA
  clear hs hi hA
  go_enter Try.func5, Try.ntmps5
  go_wp2_with fail
  refine (szChordS_yes _ _ _ _ hn).mono ?_
  rintro e w0 ⟨rfl, rfl⟩
  go_wp2_with fail
  refine (toChordS_any _ _ _ (HA.out.later (by go_grown)) hn).mono ?_
  rintro e w1 ⟨va, rfl, ka_1, hb1⟩
  have n1 : w.heap.size ≤ w1.heap.size := by have := hb1.size; (try simp at this); omega
  have B1 : Below w.heap.size w w1 := Below.trans (by go_grown) (hb1.mono (by first | (simp; done) | (simp; omega)))
  go_wp2_with fail
  refine (HS.out _ _ _ _ ka_1 (by omega)).mono ?_
  rintro e w2 ⟨vw, rfl, kw_2, hb2⟩
  have n2 := hb2.size
  have B2 := B1.trans (hb2.mono (by omega))
  have ka_2 := ka_1.keep (belowSame hb2 (by omega))
  go_wp2_with fail
  refine (toChordS_any _ _ _ (HA.out.later B2) hn).mono ?_
  rintro e w3 ⟨vc, rfl, kc_3, hb3⟩
  have n3 := hb3.size
  have B3 := B2.trans (hb3.mono (by omega))
  have ka_3 := ka_2.keep (belowSame hb3 (by omega))
  have kw_3 := kw_2.keep (belowSame hb3 (by omega))
  go_wp2_with fail
  refine (HI.out _ _ _ _ kc_3 (by omega)).mono ?_
  rintro e w4 ⟨vg, rfl, kg_4, hb4⟩
  have n4 := hb4.size
  have B4 := B3.trans (hb4.mono (by omega))
  have ka_4 := ka_3.keep (belowSame hb4 (by omega))
  have kw_4 := kw_3.keep (belowSame hb4 (by omega))
  have kc_4 := kc_3.keep (belowSame hb4 (by omega))
  go_wp2_with fail
  refine (eqIntS_in _ _ x _ _ _ _ _ _ kg_4 kw_4).mono ?_
  rintro e w5 ⟨rfl, hb5⟩
  have n5 := hb5.size
  have B5 := B4.trans (hb5.mono (by omega))
  have ka_5 := ka_4.keep (belowSame hb5 (by omega))
  have kw_5 := kw_4.keep (belowSame hb5 (by omega))
  have kc_5 := kc_4.keep (belowSame hb5 (by omega))
  have kg_5 := kg_4.keep (belowSame hb5 (by omega))
  go_wp2_with fail
  refine (toChordS_any _ _ _ (HA.out.later B5) hn).mono ?_
  rintro e w6 ⟨vd, rfl, kd_6, hb6⟩
  have n6 := hb6.size
  have B6 := B5.trans (hb6.mono (by omega))
  have ka_6 := ka_5.keep (belowSame hb6 (by omega))
  have kw_6 := kw_5.keep (belowSame hb6 (by omega))
  have kc_6 := kc_5.keep (belowSame hb6 (by omega))
  have kg_6 := kg_5.keep (belowSame hb6 (by omega))
  go_wp2_with fail
  refine (eqChordS_in _ _ _ _ _ _ _ _ _ kc_6 kd_6).mono ?_
  rintro e w7 ⟨rfl, hb7⟩
  have n7 := hb7.size
  have B7 := B6.trans (hb7.mono (by omega))
  have ka_7 := ka_6.keep (belowSame hb7 (by omega))
  have kw_7 := kw_6.keep (belowSame hb7 (by omega))
  have kc_7 := kc_6.keep (belowSame hb7 (by omega))
  have kg_7 := kg_6.keep (belowSame hb7 (by omega))
  have kd_7 := kd_6.keep (belowSame hb7 (by omega))
  go_wp2_with fail
  refine (markChordS_in _ _ 1 _ _ _ _ kc_7 (by omega) (by omega) (by omega)).mono ?_
  rintro e w8 ⟨rfl, mc_8, o8⟩
  have n8 := o8.size
  have B8 := B7.trans (o8.below (C := w.heap.size) (by omega) (by omega))
  have ka_8 := ka_7.keep (o8.same_in (by omega) (by omega))
  have kw_8 := kw_7.keep (o8.same_in (by omega) (by omega))
  have kg_8 := kg_7.keep (o8.same_in (by omega) (by omega))
  have kd_8 := kd_7.keep (o8.same_in (by omega) (by omega))
  have kc_8 := mc_8
  go_wp2_with fail
  refine (eqIntS_in _ _ x _ _ _ _ _ _ kg_8 kw_8).mono ?_
  rintro e w9 ⟨rfl, hb9⟩
  have n9 := hb9.size
  have B9 := B8.trans (hb9.mono (by omega))
  have ka_9 := ka_8.keep (belowSame hb9 (by omega))
  have kw_9 := kw_8.keep (belowSame hb9 (by omega))
  have kc_9 := kc_8.keep (belowSame hb9 (by omega))
  have kg_9 := kg_8.keep (belowSame hb9 (by omega))
  have kd_9 := kd_8.keep (belowSame hb9 (by omega))
  go_wp2_with fail
  refine (markIntS_in _ x 1 _ _ _ _ kg_9 (by omega) (by omega) (by omega)).mono ?_
  rintro e w10 ⟨rfl, mg_10, o10⟩
  have n10 := o10.size
  have B10 := B9.trans (o10.below (C := w.heap.size) (by omega) (by omega))
  have ka_10 := ka_9.keep (o10.same_in (by omega) (by omega))
  have kw_10 := kw_9.keep (o10.same_in (by omega) (by omega))
  have kc_10 := kc_9.keep (o10.same_in (by omega) (by omega))
  have kd_10 := kd_9.keep (o10.same_in (by omega) (by omega))
  have kg_10 := mg_10
  go_wp2_with fail
  refine (heldIntS_in _ 1 x.length _ _ _ _ kg_10 (by omega) (by omega) (by omega)).mono ?_
  rintro e w11 ⟨rfl, hb11⟩
  have n11 := hb11.size
  have B11 := B10.trans (hb11.mono (by omega))
  have ka_11 := ka_10.keep (belowSame hb11 (by omega))
  have kw_11 := kw_10.keep (belowSame hb11 (by omega))
  have kc_11 := kc_10.keep (belowSame hb11 (by omega))
  have kg_11 := kg_10.keep (belowSame hb11 (by omega))
  have kd_11 := kd_10.keep (belowSame hb11 (by omega))
  go_wp2_with fail
  refine (toChordS_any _ _ _ (HA.out.later B11) hn).mono ?_
  rintro e w12 ⟨ve, rfl, ke_12, hb12⟩
  have n12 := hb12.size
  have B12 := B11.trans (hb12.mono (by omega))
  have ka_12 := ka_11.keep (belowSame hb12 (by omega))
  have kw_12 := kw_11.keep (belowSame hb12 (by omega))
  have kc_12 := kc_11.keep (belowSame hb12 (by omega))
  have kg_12 := kg_11.keep (belowSame hb12 (by omega))
  have kd_12 := kd_11.keep (belowSame hb12 (by omega))
  go_wp2_with fail
  refine (HI.out _ _ _ _ ke_12 (by omega)).mono ?_
  rintro e w13 ⟨vh, rfl, kh_13, hb13⟩
  have n13 := hb13.size
  have B13 := B12.trans (hb13.mono (by omega))
  have ka_13 := ka_12.keep (belowSame hb13 (by omega))
  have kw_13 := kw_12.keep (belowSame hb13 (by omega))
  have kc_13 := kc_12.keep (belowSame hb13 (by omega))
  have kg_13 := kg_12.keep (belowSame hb13 (by omega))
  have kd_13 := kd_12.keep (belowSame hb13 (by omega))
  have ke_13 := ke_12.keep (belowSame hb13 (by omega))
  go_wp2_with fail
  refine (eqIntS_in _ _ x _ _ _ _ _ _ kh_13 kw_13).mono ?_
  rintro e w14 ⟨rfl, hb14⟩
  have n14 := hb14.size
  have B14 := B13.trans (hb14.mono (by omega))
  have ka_14 := ka_13.keep (belowSame hb14 (by omega))
  have kw_14 := kw_13.keep (belowSame hb14 (by omega))
  have kc_14 := kc_13.keep (belowSame hb14 (by omega))
  have kg_14 := kg_13.keep (belowSame hb14 (by omega))
  have kd_14 := kd_13.keep (belowSame hb14 (by omega))
  have ke_14 := ke_13.keep (belowSame hb14 (by omega))
  have kh_14 := kh_13.keep (belowSame hb14 (by omega))
  go_wp2_with fail
  refine (heldIntS_in _ 1 x.length _ _ _ _ kg_14 (by omega) (by omega) (by omega)).mono ?_
  rintro e w15 ⟨rfl, hb15⟩
  have n15 := hb15.size
  have B15 := B14.trans (hb15.mono (by omega))
  have ka_15 := ka_14.keep (belowSame hb15 (by omega))
  have kw_15 := kw_14.keep (belowSame hb15 (by omega))
  have kc_15 := kc_14.keep (belowSame hb15 (by omega))
  have kg_15 := kg_14.keep (belowSame hb15 (by omega))
  have kd_15 := kd_14.keep (belowSame hb15 (by omega))
  have ke_15 := ke_14.keep (belowSame hb15 (by omega))
  have kh_15 := kh_14.keep (belowSame hb15 (by omega))
  go_wp2_with fail
  go_ret
  exact ⟨rfl, B15⟩

set_option maxHeartbeats 400000 in
theorem long_EndRegions (p : Int) (v : Value) (xs : List (Int × Int)) (w : World) (hA : ArgP w v xs) (hn : ¬ xs.length ≤ 1048576) :
    Calls Try.prog 5 #[.int .i64 p, v] w fun e w' => e = .returned (.bool true) ∧ Below w.heap.size w w' := by
  obtain ⟨a0, cap, a, rfl, _, hm, _⟩ := hA
  go_enter Try.func5, Try.ntmps5
  go_wp2_with fail
  refine (szChordS_no _ _ _ _ (by omega) hm).mono ?_
  rintro e w0 ⟨rfl, rfl⟩
  go_wp2_with fail
  go_ret
  exact ⟨rfl, by go_grown⟩

theorem walk_EndRegions (p : Int) (v : Value) (xs : List (Int × Int)) (w : World) (_ : (Lit.int .i64 p).wf = true) (hA : ArgP w v xs) :
    Calls Try.prog 5 #[.int .i64 p, v] w fun e w' => e = .returned (.bool true) ∧ Below w.heap.size w w' := by
  by_cases hn : xs.length ≤ 1048576
  · by_cases hg : goodC p xs
    · by_cases hpl : allP xs xs.length = []
      · obtain ⟨n, rfl⟩ := Int.eq_ofNat_of_zero_le (show 0 ≤ p by have := hg.1; omega)
        have hxl := hg.2.1
        have hs2 := selT_length (endC (allN (regL n xs) (regL n xs).length) (xs.length + 1)) (xs.length + 1)
        exact core_EndRegions _ v xs (endL (allN (regL n xs) (regL n xs).length) (xs.length + 1)) true w hA hn (by unfold endL; omega) (fun W u B T h hT => by obtain ⟨a0, cap, g0, rfl, _⟩ := h.pairs.view; exact sEndR_yes n a0 cap xs B T W h hT hg hpl) (fun W u B T h hT => by obtain ⟨a0, cap, g0, rfl, _⟩ := h.pairs.view; exact iEndR_yes n a0 cap xs B T W h hT hg hpl)
      · exact core_EndRegions p v xs [] false w hA hn (by simp) (fun W u B T h hT => by obtain ⟨a0, cap, g0, rfl, _⟩ := h.pairs.view; exact sEndR_not p a0 cap xs B T W h hT hg hpl) (fun W u B T h hT => by obtain ⟨a0, cap, g0, rfl, _⟩ := h.pairs.view; exact iEndR_not p a0 cap xs B T W h hT hg hpl)
    · exact core_EndRegions p v xs [] false w hA hn (by simp) (fun W u B T h hT => by obtain ⟨a0, cap, g0, rfl, _⟩ := h.pairs.view; exact sEndR_bad p a0 cap xs B T W h hT hg) (fun W u B T h hT => by obtain ⟨a0, cap, g0, rfl, _⟩ := h.pairs.view; exact iEndR_bad p a0 cap xs B T W h hT hg)
  · exact long_EndRegions p v xs w hA hn
end Go.Proofs.Ytpliaenpencocab
