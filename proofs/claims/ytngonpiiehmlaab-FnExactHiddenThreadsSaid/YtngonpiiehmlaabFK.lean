/- The highest thread at a place, by the program. -/
import Derived.Test.YtngonpiiehmlaabFJ
namespace Go.Proofs.Ytngonpiiehmlaab
open Go.RowKit
set_option linter.unusedVariables false

theorem sel_getD (xs : List (Int × Int)) (x : Int) (i : Nat) (h : i < (rchL xs x).length) : (selT (reachP xs x) xs.length).getD i 0 = (((rchL xs x).getD i 0 : Nat) : Int) := by
  rw [rch_sel, List.getD_eq_getElem?_getD, List.getElem?_map, List.getElem?_eq_getElem h, List.getD_eq_getElem?_getD, List.getElem?_eq_getElem h]
  rfl

theorem sel_len (xs : List (Int × Int)) (x : Int) : (selT (reachP xs x) xs.length).length = (rchL xs x).length := by rw [rch_sel, List.length_map]

set_option maxHeartbeats 2000000 in
theorem maxFn_any (xs : List (Int × Int)) (x : Int) (gl gx : Nat) (u v : Value) (B T Bv : Nat) (w : World) (hL : PairsIn 55 w B T u xs) (hT : T ≤ w.heap.size) (hg : goodT xs) (hl : w.cell? ⟨gl, 0, none⟩ = some u) (hx : w.cell? ⟨gx, 0, none⟩ = some (.int .i64 x)) (x0 : 0 ≤ x) (hv : Ints w Bv 3 v (selT (reachP xs x) xs.length)) (hne : 0 < (rchL xs x).length) :
    Calls Try.prog 70 #[v, .func (.func 71) #[] #[.pointer (some ⟨gl, 0, none⟩), .pointer (some ⟨gx, 0, none⟩)]] w fun e w' => (∃ m : Nat, e = .returned (.int .i64 m) ∧ m < xs.length ∧ reachP xs x m = true ∧ ∀ j, j < xs.length → reachP xs x j = true → leH xs x j m) ∧ Below w.heap.size w w' := by
  obtain ⟨a2, c2, g2, rfl, ha2, _, _, _, hc2, _⟩ := hv.view
  rw [sel_len] at ha2 ⊢
  have hlen := rch_len xs x
  have h30 := hg.1.2
  obtain rfl := ha2 hne
  have HR := Lib.hid (fun i (hi : i < (rchL xs x).length) => show w.cell? ⟨g2, i, none⟩ = some (.int .i64 (((rchL xs x).getD i 0 : Nat) : Int)) by rw [← sel_getD xs x i hi]; exact hc2 i (by rw [sel_len]; exact hi))
  have HA := Lib.hid (rch_at xs x)
  have HP := Lib.hid (fun j (h1 : j < xs.length) (h2 : reachP xs x j = true) => rch_place xs x j h1 h2)
  obtain ⟨R, hRR⟩ : ∃ R, rchL xs x = R := ⟨_, rfl⟩
  rw [hRR] at HR HA HP hlen hne ⊢
  have HL := Lib.hid hL
  have HG := Lib.hid hg
  have SX := Lib.hid hx
  have SL := Lib.hid hl
  have c0 := HR.out 0 hne
  have n1 : 1 ≤ (R.length : Int) := by omega
  have n2 : (0 : Int) < (R.length : Int) := by omega
  obtain ⟨r0, hr0⟩ : ∃ r, R.getD 0 0 = r := ⟨_, rfl⟩
  rw [hr0] at c0
  have HR0 := Lib.hid hr0
  clear hL hg hx hl hv hc2 ha2 hRR hr0
  go_enter Try.func70, Try.ntmps70
  go_wp2
  go_loopw [5, 6] (fun mv iv wr => ∃ m k : Nat, 1 ≤ k ∧ k ≤ R.length ∧ mv = .int .i64 m ∧ iv = .int .i64 k ∧ Hid (∃ q, q < k ∧ R.getD q 0 = m) ∧ Hid (∀ q, q < k → leH xs x (R.getD q 0) m) ∧ Below w.heap.size w wr) (fun _ iv _ => R.length - (intOf iv).toNat)
  case atStart => exact ⟨r0, 1, Nat.le_refl _, by omega, rfl, rfl, Lib.hid ⟨0, by omega, HR0.out⟩, Lib.hid (fun q hq => by rw [show q = 0 by omega, HR0.out]; exact leH_refl _ _ _), Below.refl _ _⟩
  case round =>
    obtain ⟨m, k, hk1, hk, rfl, rfl, H1, H2, hB⟩ := hrel
    have hz := hB.size
    obtain ⟨q0, hq0, hqm⟩ := H1.out
    have hmr := HA.out q0 (by omega)
    rw [hqm] at hmr
    by_cases hlt : k < R.length
    · have ck := cellB hB (HR.out k hlt)
      have hkr := HA.out k hlt
      obtain ⟨r, hr⟩ : ∃ r, R.getD k 0 = r := ⟨_, rfl⟩
      rw [hr] at ck hkr
      have SX2 := Lib.hid ((hB.cell (p := ⟨gx, 0, none⟩) (World.block_lt_of_cell? w _ SX.out)).trans SX.out)
      have SL2 := Lib.hid ((hB.cell (p := ⟨gl, 0, none⟩) (World.block_lt_of_cell? w _ SL.out)).trans SL.out)
      have HL2 := Lib.hid (HL.out.keep (belowSame hB hT))
      obtain ⟨_, s1, s2⟩ := oH_spec HG.out x x0 r m hkr.1 hmr.1 hkr.2 hmr.2
      have HC := Lib.hid (fun W (h1 : PairsIn 55 W B T u xs) (h2 : W.cell? ⟨gl, 0, none⟩ = some u) (h3 : W.cell? ⟨gx, 0, none⟩ = some (.int .i64 x)) => cmpFn_any xs x r m gl gx u B T W h1 HG.out h2 h3 x0 hkr.1 hmr.1 hkr.2 hmr.2)
      have HRK := Lib.hid hr
      have HQM := Lib.hid hqm
      clear hqm hr
      cases ho : oH xs x r m with
      | gt =>
        have hle : leH xs x m r := Classical.byContradiction fun h => by have := s1 h; rw [ho] at this; cases this
        have HLE := Lib.hid hle
        rw [ho] at HC
        have HC2 : Hid (∀ W, PairsIn 55 W B T u xs → W.cell? ⟨gl, 0, none⟩ = some u → W.cell? ⟨gx, 0, none⟩ = some (.int .i64 x) → Calls Try.prog 71 #[.int .i64 r, .int .i64 m, .pointer (some ⟨gl, 0, none⟩), .pointer (some ⟨gx, 0, none⟩)] W fun e w' => e = .returned (.int .i64 1) ∧ Below W.heap.size W w') := HC
        clear s1 s2 ho HC hle
        go_wp2_with (first | (go_at_call 71; (refine (HC2.out _ HL2.out SL2.out SX2.out).mono ?_); rintro e w1 ⟨rfl, hb1⟩; have hB1 := hB.trans (hb1.mono hz); have ck1 := cellB hb1 ck))
        go_roundw
        case rel => exact ⟨r, k + 1, by omega, by omega, rfl, by go_num, Lib.hid ⟨k, by omega, HRK.out⟩, Lib.hid (fun q hq => by
          by_cases e : q = k
          · rw [e, HRK.out]; exact leH_refl _ _ _
          · exact leH_trans HG.out x (hmr.1) (H2.out q (by omega)) HLE.out), hB1⟩
        case measure => simp [intOf]; omega
      | eq =>
        have hle : leH xs x r m := Classical.byContradiction fun h => by have := s2 h; rw [ho] at this; cases this
        have HLE := Lib.hid hle
        rw [ho] at HC
        have HC2 : Hid (∀ W, PairsIn 55 W B T u xs → W.cell? ⟨gl, 0, none⟩ = some u → W.cell? ⟨gx, 0, none⟩ = some (.int .i64 x) → Calls Try.prog 71 #[.int .i64 r, .int .i64 m, .pointer (some ⟨gl, 0, none⟩), .pointer (some ⟨gx, 0, none⟩)] W fun e w' => e = .returned (.int .i64 0) ∧ Below W.heap.size W w') := HC
        clear s1 s2 ho HC hle
        go_wp2_with (first | (go_at_call 71; (refine (HC2.out _ HL2.out SL2.out SX2.out).mono ?_); rintro e w1 ⟨rfl, hb1⟩; have hB1 := hB.trans (hb1.mono hz); have ck1 := cellB hb1 ck))
        go_roundw
        case rel => exact ⟨m, k + 1, by omega, by omega, rfl, by go_num, Lib.hid ⟨q0, by omega, HQM.out⟩, Lib.hid (fun q hq => by
          by_cases e : q = k
          · rw [e, HRK.out]; exact HLE.out
          · exact H2.out q (by omega)), hB1⟩
        case measure => simp [intOf]; omega
      | lt =>
        have hle : leH xs x r m := Classical.byContradiction fun h => by have := s2 h; rw [ho] at this; cases this
        have HLE := Lib.hid hle
        rw [ho] at HC
        have HC2 : Hid (∀ W, PairsIn 55 W B T u xs → W.cell? ⟨gl, 0, none⟩ = some u → W.cell? ⟨gx, 0, none⟩ = some (.int .i64 x) → Calls Try.prog 71 #[.int .i64 r, .int .i64 m, .pointer (some ⟨gl, 0, none⟩), .pointer (some ⟨gx, 0, none⟩)] W fun e w' => e = .returned (.int .i64 (-1)) ∧ Below W.heap.size W w') := HC
        clear s1 s2 ho HC hle
        go_wp2_with (first | (go_at_call 71; (refine (HC2.out _ HL2.out SL2.out SX2.out).mono ?_); rintro e w1 ⟨rfl, hb1⟩; have hB1 := hB.trans (hb1.mono hz); have ck1 := cellB hb1 ck))
        go_roundw
        case rel => exact ⟨m, k + 1, by omega, by omega, rfl, by go_num, Lib.hid ⟨q0, by omega, HQM.out⟩, Lib.hid (fun q hq => by
          by_cases e : q = k
          · rw [e, HRK.out]; exact HLE.out
          · exact H2.out q (by omega)), hB1⟩
        case measure => simp [intOf]; omega
    · obtain rfl : k = R.length := by omega
      have HM := Lib.hid hmr
      clear hqm hmr
      go_wp2
      go_ret
      refine ⟨⟨m, rfl, HM.out.1, HM.out.2, fun j hj hrj => ?_⟩, hB⟩
      obtain ⟨p, hp, hpj⟩ := HP.out j hj hrj
      rw [← hpj]
      exact H2.out p hp

set_option maxHeartbeats 1000000 in
theorem idxFn_any (xs : List (Int × Int)) (x : Int) (m p gl gx gh : Nat) (u v : Value) (B T Bv : Nat) (w : World) (hL : PairsIn 55 w B T u xs) (hT : T ≤ w.heap.size) (hg : goodT xs) (hl : w.cell? ⟨gl, 0, none⟩ = some u) (hx : w.cell? ⟨gx, 0, none⟩ = some (.int .i64 x)) (x0 : 0 ≤ x) (hv : Ints w Bv 3 v (selT (reachP xs x) xs.length)) (hm : m < xs.length) (h0 : w.cell? ⟨gh, 0, none⟩ = some (.int .i64 (lowA (hN xs x m) (hD xs m) : Nat))) (h1 : w.cell? ⟨gh, 1, none⟩ = some (.int .i64 (lowB (hN xs x m) (hD xs m) : Nat)))
    (hp : p < (rchL xs x).length) (hy : decide (leH xs x ((rchL xs x).getD p 0) m ∧ leH xs x m ((rchL xs x).getD p 0)) = true) (hno : ∀ i, i < p → decide (leH xs x ((rchL xs x).getD i 0) m ∧ leH xs x m ((rchL xs x).getD i 0)) = false) :
    Calls Try.prog 75 #[v, .func (.func 76) #[] #[.pointer (some ⟨gl, 0, none⟩), .pointer (some ⟨gx, 0, none⟩), .pointer (some ⟨gh, 0, none⟩)]] w fun e w' => e = .returned (.int .i64 p) ∧ Below w.heap.size w w' := by
  obtain ⟨a2, c2, g2, rfl, ha2, _, _, _, hc2, _⟩ := hv.view
  rw [sel_len] at ha2 ⊢
  have hlen := rch_len xs x
  have h30 := hg.1.2
  obtain rfl := ha2 (by omega)
  have HR := Lib.hid (fun i (hi : i < (rchL xs x).length) => show w.cell? ⟨g2, i, none⟩ = some (.int .i64 (((rchL xs x).getD i 0 : Nat) : Int)) by rw [← sel_getD xs x i hi]; exact hc2 i (by rw [sel_len]; exact hi))
  have HA := Lib.hid (rch_at xs x)
  obtain ⟨R, hRR⟩ : ∃ R, rchL xs x = R := ⟨_, rfl⟩
  rw [hRR] at HR HA hlen hp hy hno ⊢
  have HL := Lib.hid hL
  have HG := Lib.hid hg
  have SX := Lib.hid hx
  have SL := Lib.hid hl
  have S0 := Lib.hid h0
  have S1 := Lib.hid h1
  have HY := Lib.hid hy
  have HNO := Lib.hid hno
  clear hL hg hx hl hv hc2 ha2 hRR h0 h1 hy hno
  go_enter Try.func75, Try.ntmps75
  go_wp2
  go_loopw [8] (fun iv wr => ∃ k : Nat, k ≤ p ∧ iv = .int .i64 k ∧ Below w.heap.size w wr) (fun iv _ => R.length - (intOf iv).toNat)
  case atStart => exact ⟨0, by omega, rfl, Below.refl _ _⟩
  case round =>
    obtain ⟨k, hk, rfl, hB⟩ := hrel
    have hz := hB.size
    have ck := cellB hB (HR.out k (by omega))
    have hkr := HA.out k (by omega)
    have SX2 := Lib.hid ((hB.cell (p := ⟨gx, 0, none⟩) (World.block_lt_of_cell? w _ SX.out)).trans SX.out)
    have SL2 := Lib.hid ((hB.cell (p := ⟨gl, 0, none⟩) (World.block_lt_of_cell? w _ SL.out)).trans SL.out)
    have S02 := Lib.hid ((hB.cell (p := ⟨gh, 0, none⟩) (World.block_lt_of_cell? w _ S0.out)).trans S0.out)
    have S12 := Lib.hid ((hB.cell (p := ⟨gh, 1, none⟩) (World.block_lt_of_cell? w _ S1.out)).trans S1.out)
    have HL2 := Lib.hid (HL.out.keep (belowSame hB hT))
    have HKR := Lib.hid hkr
    clear hkr
    by_cases hlt : k < p
    · have HN := Lib.hid (HNO.out k hlt)
      obtain ⟨r, hr⟩ : ∃ r, R.getD k 0 = r := ⟨_, rfl⟩
      rw [hr] at ck HKR HN
      clear hr
      go_wp2_with (first | (go_at_call 76; (refine (eqFn_any xs x r m gl gx gh u B T false _ HL2.out HG.out SL2.out SX2.out x0 HKR.out.1 hm HKR.out.2 S02.out S12.out HN.out).mono ?_); rintro e w1 ⟨rfl, hb1⟩; have hB1 := hB.trans (hb1.mono hz)))
      go_roundw
      case rel => exact ⟨k + 1, by omega, by go_num, hB1⟩
      case measure => simp [intOf]; omega
    · obtain rfl : k = p := by omega
      have HN := Lib.hid HY.out
      obtain ⟨r, hr⟩ : ∃ r, R.getD k 0 = r := ⟨_, rfl⟩
      rw [hr] at ck HKR HN
      clear hr
      go_wp2_with (first | (go_at_call 76; (refine (eqFn_any xs x r m gl gx gh u B T true _ HL2.out HG.out SL2.out SX2.out x0 HKR.out.1 hm HKR.out.2 S02.out S12.out HN.out).mono ?_); rintro e w1 ⟨rfl, hb1⟩; have hB1 := hB.trans (hb1.mono hz)))
      go_ret
      exact ⟨rfl, hB1⟩

end Go.Proofs.Ytngonpiiehmlaab
