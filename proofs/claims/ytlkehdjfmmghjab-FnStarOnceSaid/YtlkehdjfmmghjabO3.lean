/- FnStarOnce: the walk. -/
import Derived.Test.YtlkehdjfmmghjabO2
import Derived.Test.YtlkehdjfmmghjabV8
import Derived.Test.YtlkehdjfmmghjabV4
import Derived.Deep.RegionHeld3
namespace Go.Proofs.Ytlkehdjfmmghjab
open Go.RowKit
set_option linter.unusedVariables false

theorem natO_lt (p s r j : Nat) (hp : 0 < p) : natO p s r j < p := Nat.mod_lt _ hp
theorem natO_succ (p s r j : Nat) : (natO p s r j + s) % p = natO p s r (j + 1) := by
  unfold natO
  rw [Nat.mod_add_mod, Nat.succ_mul, Nat.add_assoc]
theorem natO_zero (p s r : Nat) (hr : r < p) : natO p s r 0 = r := by
  unfold natO
  rw [Nat.zero_mul, Nat.add_zero, Nat.mod_eq_of_lt hr]
theorem natO_all (p s r : Nat) (hr : r < p) : natO p s r (p / Nat.gcd p s) = r := (back_iff p s r _ hr).2 (Nat.dvd_refl _)
theorem natO_wrap {p s r L : Nat} (hr : r < p) (hL : p / Nat.gcd p s = L) (j : Nat) (hj : j < L) : natO p s r ((j + 1) % L) = natO p s r (j + 1) := by
  by_cases e : j + 1 = L
  · rw [e, Nat.mod_self, natO_zero p s r hr, ← hL, natO_all p s r hr]
  · rw [Nat.mod_eq_of_lt (by omega)]
theorem strL_getO (p s r n j : Nat) (hj : j < n) : (strL p s r n).getD j 0 = ((natO p s r j : Nat) : Int) := by
  simp [strL, List.getD, hj, atI_natO]
theorem doneO_length (p s r j : Nat) : (doneO p s r j).length = r * (p / Nat.gcd p s) + j := by
  unfold doneO
  rw [List.length_append, length_flatMapO _ _ (p / Nat.gcd p s) (fun a _ => by simp)]
  simp
theorem seenO_bound (p s r j x : Nat) (hx : x < p) : 0 ≤ (seenO p s r j).getD x 0 ∧ (seenO p s r j).getD x 0 ≤ ((r * (p / Nat.gcd p s) + j : Nat) : Int) := by
  rw [seenO_get p s r j x hx]
  have h1 := List.count_le_length (a := x) (l := doneO p s r j)
  rw [doneO_length] at h1
  omega

set_option maxRecDepth 100000 in
set_option maxHeartbeats 4000000 in
theorem core_StarOnce (p s k : Nat) (w : World) (h : 3 ≤ p ∧ p ≤ 60 ∧ 1 ≤ s ∧ s < p) (hk : k < p) :
    Calls Try.prog 6 #[.agg #[.int .i64 (p : Int), .int .i64 (s : Int)], .int .i64 (k : Int)] w fun e w' => e = .returned (.bool true) ∧ Below w.heap.size w w' := by
  obtain ⟨g, hg⟩ : ∃ g, Nat.gcd p s = g := ⟨_, rfl⟩
  obtain ⟨L, hL⟩ : ∃ L, p / g = L := ⟨_, rfl⟩
  have hgp : g ∣ p := by rw [← hg]; exact Nat.gcd_dvd_left p s
  have hg0 : 0 < g := by rw [← hg]; exact Nat.gcd_pos_of_pos_left s (by omega)
  have hLg : L * g = p := by rw [← hL]; exact Nat.div_mul_cancel hgp
  have hgs : g ≤ s := by rw [← hg]; exact Nat.gcd_le_right p (by omega)
  have hLp : L ≤ p := by rw [← hL]; exact Nat.div_le_self p g
  have hL0 : 0 < L := by
    rcases Nat.eq_zero_or_pos L with e | e
    · rw [e] at hLg; omega
    · exact e
  have hLG : p / Nat.gcd p s = L := by rw [hg, hL]
  have gI : 3 ≤ (p : Int) ∧ (p : Int) ≤ 60 ∧ 1 ≤ (s : Int) ∧ (s : Int) < (p : Int) := by omega
  obtain ⟨R, hR⟩ : ∃ R, (List.range g).map (rowOf p s) = R := ⟨_, rfl⟩
  have hRl : R.length = g := by rw [← hR]; simp
  have hRr : ∀ r, r < g → R.getD r [] = strL p s r L := fun r hr => by
    rw [← hR, ← hLG]
    simp [List.getD, hr, rowOf]
  have c3 := fun W => iStringOf_yes p s k W h hk
  have c4 := fun W => iStringsOf_yes p s W h
  have c5 := fun W => iCountStrings_yes p s W h
  simp only [hLG] at c3
  simp only [hg, hR] at c4
  simp only [hg] at c5
  have C1 := Lib.hid (fun W => isStar_yes (p : Int) (s : Int) W gI)
  have C2 := Lib.hid (fun W => sIsStar_yes (p : Int) (s : Int) W gI)
  have C3 := Lib.hid c3
  have C4 := Lib.hid c4
  have C5 := Lib.hid c5
  have HRR := Lib.hid hRr
  have HRL := Lib.hid hRl
  have HLG := Lib.hid hLG
  have HG := Lib.hid hg
  have hwL : IntKind.i64.wrap ((L : Int) * (g : Int)) = (p : Int) := by
    have e : (L : Int) * (g : Int) = (p : Int) := by rw [← Int.natCast_mul, hLg]
    rw [e, IntKind.wrap_i64]; omega
  have k0 : ¬ (k : Int) < 0 := by omega
  have k1 : (k : Int) < (p : Int) := by omega
  have k2 : ¬ (p : Int) ≤ (k : Int) := by omega
  have HLGP := Lib.hid hLg
  have l0 : ¬ (L : Int) = 0 := by omega
  have l1 : ((L : Int) == 0) = false := by rw [beq_eq_false_iff_ne]; exact l0
  have l2 : (0 : Int) < (L : Int) := by omega
  have hmk := make_ints (P := Try.prog) Try.underlying40 info_int p (by omega)
  clear c3 c4 c5 hRr hg hL hR hLG hgp hLg hRl
  have p0_0' : (w.alloc (.cells #[.int .i64 (p : Int), .int .i64 (s : Int)] 23)).cell? ⟨w.heap.size, 0, none⟩ = some (.int .i64 (p : Int)) := by go_simp
  have q0_0' : (w.alloc (.cells #[.int .i64 (p : Int), .int .i64 (s : Int)] 23)).cell? ⟨w.heap.size, 1, none⟩ = some (.int .i64 (s : Int)) := by go_simp
  have p0_0 := Lib.hid p0_0'
  have q0_0 := Lib.hid q0_0'
  clear p0_0' q0_0'
  go_enter Try.func6, Try.ntmps6
  go_wp2
  go_region_held3 (fun w' => w'.cell? ⟨w.heap.size, 0, none⟩ = some (.int .i64 (p : Int)) ∧ w'.cell? ⟨w.heap.size, 1, none⟩ = some (.int .i64 (s : Int))) (go_keep)
    (first | (go_at_call 28; refine (C1.out _).mono ?_; rintro e w1 ⟨rfl, hbx1⟩; (have n1 : w.heap.size + 1 ≤ w1.heap.size := by have := hbx1.size; simp at this; omega); (have B1 : Below w.heap.size w w1 := Below.trans (by go_grown) (hbx1.mono (by first | (simp; done) | (simp; omega)))); (have p0_1 := cellB hbx1 (b := w.heap.size) (o := 0) (x := .int .i64 (p : Int)) (by go_simp)); (have q0_1 := cellB hbx1 (b := w.heap.size) (o := 1) (x := .int .i64 (s : Int)) (by go_simp))) | (go_at_call 29; refine (C2.out _).mono ?_; rintro e w2 ⟨rfl, hbx2⟩; (have hb2 : Below w1.heap.size w1 w2 := Below.trans (by go_grown) (hbx2.mono (by first | omega | (simp; done) | (simp; omega)))); have n2 := hb2.size; have B2 := B1.trans (hb2.mono (by omega)); have p0_2 := cellB hb2 p0_1; have q0_2 := cellB hb2 q0_1))
  go_wp2_with fail
  refine (C1.out _).mono ?_
  rintro e w3 ⟨rfl, hb3⟩
  have n3 := hb3.size
  have B3 := B2.trans (hb3.mono (by omega))
  have p0_3 := cellB hb3 p0_2
  have q0_3 := cellB hb3 q0_2
  clear p0_2 q0_2
  go_wp2_with fail
  refine (C3.out _).mono ?_
  rintro e w4 ⟨vl, rfl, kl_4, hb4⟩
  have n4 := hb4.size
  have B4 := B3.trans (hb4.mono (by omega))
  have p0_4 := cellB hb4 p0_3
  have q0_4 := cellB hb4 q0_3
  clear p0_3 q0_3
  go_wp2_with fail
  refine (C4.out _).mono ?_
  rintro e w5 ⟨vr, rfl, kr_5, hb5⟩
  have n5 := hb5.size
  have B5 := B4.trans (hb5.mono (by omega))
  have p0_5 := cellB hb5 p0_4
  have q0_5 := cellB hb5 q0_4
  clear p0_4 q0_4
  have kl_5 := kl_4.keep (belowSame hb5 (by omega))
  go_wp2_with fail
  refine (C5.out _).mono ?_
  rintro e w6 ⟨rfl, hb6⟩
  have n6 := hb6.size
  have B6 := B5.trans (hb6.mono (by omega))
  have p0_6 := cellB hb6 p0_5
  have q0_6 := cellB hb6 q0_5
  clear p0_5 q0_5
  have kl_6 := kl_5.keep (belowSame hb6 (by omega))
  have kr_6 := kr_5.keep (belowSame hb6 (by omega))
  obtain ⟨a1, c1, g1, rfl, ha1, _, hm1, _, hc1, _⟩ := kl_6.1.view
  obtain ⟨vs, hR6⟩ := kr_6
  obtain ⟨a2, c2, g2, rfl, ha2, hm2, hc2, _⟩ := hR6.view
  rw [strL_length] at ha1 hc1 hm1
  rw [HRL.out] at ha2 hc2 hm2
  obtain rfl := ha1 (by omega)
  obtain rfl := ha2 (by omega)
  have HC : Hid (∀ j, j < L → w6.cell? ⟨g1, j, none⟩ = some (.int .i64 ((natO p s k j : Nat) : Int))) := Lib.hid (fun j hj => by rw [hc1 j hj, strL_getO p s k L j hj])
  have HV : Hid (∀ r, r < g → w6.cell? ⟨g2, r, none⟩ = some (vs.getD r (.slice none 0 0)) ∧ ∃ (ar : Option Addr) (cr gr : Nat), vs.getD r (.slice none 0 0) = .slice ar L cr ∧ ar = some ⟨gr, 0, none⟩ ∧ ∀ j, j < L → w6.cell? ⟨gr, j, none⟩ = some (.int .i64 ((natO p s r j : Nat) : Int))) := Lib.hid (fun r hr => by
    refine ⟨hc2 r hr, ?_⟩
    obtain ⟨ar, cr, gr, e, har, _, _, _, hcr, _⟩ := (hR6.rows r (by rw [HRL.out]; exact hr)).1.view
    rw [HRR.out r hr, strL_length] at e har hcr
    exact ⟨ar, cr, gr, e, har (by omega), fun j hj => by rw [hcr j hj, strL_getO p s r L j hj]⟩)
  have e0 := HC.out 0 (by omega)
  rw [natO_zero p s k hk] at e0
  have HP6 := Lib.hid p0_6
  have HQ6 := Lib.hid q0_6
  have HB6 := Lib.hid B6
  have HN6 : Hid (w.heap.size + 1 ≤ w6.heap.size) := Lib.hid (by omega)
  rw [strL_length] 
  rw [HRL.out]
  clear hc1 hc2 hm1 hm2 hR6 kl_6 ha1 ha2
  go_wp2
  go_loopw [95] (fun i wr => ∃ j : Nat, j ≤ L ∧ i = .int .i64 j ∧ Below w6.heap.size w6 wr) (fun i _ => L - (intOf i).toNat)
  case atStart => exact ⟨0, by omega, rfl, Below.refl _ _⟩
  case round =>
    obtain ⟨j, hj, rfl, hB⟩ := hrel
    have d0 := cellB hB HP6.out
    have d1 := cellB hB HQ6.out
    have hz := hB.size
    by_cases hlt : j < L
    · have cj := cellB hB (HC.out j hlt)
      have cm := cellB hB (HC.out ((j + 1) % L) (Nat.mod_lt _ hL0))
      rw [natO_wrap hk HLG.out j hlt] at cm
      have hx := natO_lt p s k j (by omega)
      have hy := natO_lt p s k (j + 1) (by omega)
      have hs := natO_succ p s k j
      have hm := Nat.mod_lt (j + 1) hL0
      obtain ⟨m, hmm⟩ : ∃ m, (j + 1) % L = m := ⟨_, rfl⟩
      obtain ⟨x, hxx⟩ : ∃ x, natO p s k j = x := ⟨_, rfl⟩
      obtain ⟨y, hyy⟩ : ∃ y, natO p s k (j + 1) = y := ⟨_, rfl⟩
      rw [hxx] at cj hx hs
      rw [hyy] at cm hy hs
      rw [hmm] at cm hm
      have hsI : ((x : Int) + (s : Int)) % (p : Int) = (y : Int) := by rw [← hs]; simp
      have hv := fun W => nextPoint_yes (p : Int) (s : Int) (x : Int) W gI (by omega)
      rw [hsI] at hv
      have HVN := Lib.hid hv
      obtain ⟨z, hzz⟩ : ∃ z, x + s = z := ⟨_, rfl⟩
      obtain ⟨j1, hj1⟩ : ∃ j1, j + 1 = j1 := ⟨_, rfl⟩
      have hw1 : IntKind.i64.wrap ((x : Int) + (s : Int)) = (z : Int) := by rw [IntKind.wrap_i64]; omega
      have hw2 : IntKind.i64.wrap ((j : Int) + 1) = (j1 : Int) := by rw [IntKind.wrap_i64]; omega
      have hzp : (z : Int) % (p : Int) = (y : Int) := by rw [← hsI, ← hzz]; simp
      have hjL : (j1 : Int) % (L : Int) = (m : Int) := by rw [← hmm, ← hj1]; simp
      have t1 : Int.tmod (z : Int) (p : Int) = (y : Int) := by rw [Int.tmod_eq_emod_of_nonneg (by omega), hzp]
      have t2 : Int.tmod (j1 : Int) (L : Int) = (m : Int) := by rw [Int.tmod_eq_emod_of_nonneg (by omega), hjL]
      have t3 : IntKind.i64.wrap (y : Int) = (y : Int) := by rw [IntKind.wrap_i64]; omega
      have t4 : IntKind.i64.wrap (m : Int) = (m : Int) := by rw [IntKind.wrap_i64]; omega
      have t5 : ((z % p : Nat) : Int) = (y : Int) := by rw [← hzp]; simp
      have t6 : ((j1 % L : Nat) : Int) = (m : Int) := by rw [← hjL]; simp
      have u1 : ¬ (p : Int) = 0 := by omega
      have u2 : ¬ p = 0 := by omega
      have u3 : ¬ L = 0 := by omega
      have v1 : 0 ≤ (m : Int) := by omega
      have v2 : (m : Int) < (L : Int) := by omega
      have v3 : 0 ≤ (j : Int) := by omega
      have v4 : (j : Int) < (L : Int) := by omega
      have HJ1 := Lib.hid hj1
      clear hv hs hsI hxx hyy hmm hzz hj1
      go_wp2_with (go_at_call 33; (refine (HVN.out _).mono ?_); rintro e wn ⟨rfl, hbn⟩; (have f0 := cellB hbn d0); (have f1 := cellB hbn d1); (have fm := cellB hbn cm); (have hBn := hB.trans (hbn.mono hz)))
      go_roundw
      case rel => exact ⟨j + 1, by omega, by rw [HJ1.out], hBn⟩
      case measure => have := HJ1.out; simp [intOf]; omega
    · obtain rfl : j = L := by omega
      obtain ⟨wa, rfl⟩ : ∃ z, z = wr := ⟨wr, rfl⟩
      have HBA := Lib.hid hB
      have a0 : (j : Int) ≤ (j : Int) := by omega
      clear hlt
      go_wp2
      go_loopw [137] (fun i wr => ∃ r : Nat, r ≤ g ∧ i = .int .i64 r ∧ Ints wr wa.heap.size 3 (.slice (some ⟨wa.heap.size, 0, none⟩) p p) (seenO p s r 0) ∧ Below wa.heap.size wa wr) (fun i _ => g - (intOf i).toNat)
      case atStart => exact ⟨0, by omega, rfl, by rw [seenO_start]; exact Ints.made wa wa.heap.size _ p (Nat.le_refl _) (by omega), by go_grown⟩
      case round =>
        obtain ⟨r, hr, rfl, hI, hBr⟩ := hrel
        have hzr := hBr.size
        have HIr := Lib.hid hI
        clear hI
        by_cases hltr : r < g
        · obtain ⟨hcell, ar, cr, gr, hvr, rfl, hcr⟩ := HV.out r hltr
          rw [hvr] at hcell
          have hw6 := HBA.out.trans (hBr.mono HBA.out.size)
          have HCR : Hid (∀ i, i < j → wr.cell? ⟨gr, i, none⟩ = some (.int .i64 ((natO p s r i : Nat) : Int))) := Lib.hid (fun i hi => cellB hw6 (hcr i hi))
          have crow := cellB hw6 hcell
          have x0 := cellB hw6 HP6.out
          have r0 : 0 ≤ (r : Int) := by omega
          have r1 : (r : Int) < (g : Int) := by omega
          have HVR := Lib.hid hvr
          obtain ⟨wo, rfl⟩ : ∃ z, z = wr := ⟨wr, rfl⟩
          have HBO := Lib.hid hBr
          clear hcr hcell hvr hw6 hBr
          go_wp2
          go_loopw [143] (fun i wr => ∃ t : Nat, t ≤ j ∧ i = .int .i64 t ∧ Ints wr wa.heap.size 3 (.slice (some ⟨wa.heap.size, 0, none⟩) p p) (seenO p s r t) ∧ Below wa.heap.size wa wr) (fun i _ => j - (intOf i).toNat)
          case atStart => exact ⟨0, by omega, rfl, HIr.out, HBO.out⟩
          case round =>
            obtain ⟨t, ht, rfl, hI2, hBt⟩ := hrel
            have hzt := hBt.size
            by_cases hltt : t < j
            · have hx := natO_lt p s r t (by omega)
              have hst := seenO_step p s r t (by omega)
              have hbd := seenO_bound p s r t (natO p s r t) hx
              rw [HLG.out] at hbd
              have hlen := seenO_length p s r t
              have hrj : r * j + t ≤ 4000 := by
                have h1 : r * j ≤ 60 * 60 := Nat.mul_le_mul (by omega) (by omega)
                omega
              obtain ⟨x, hxx⟩ : ∃ x, natO p s r t = x := ⟨_, rfl⟩
              have HXT := Lib.hid hxx
              rw [hxx] at hx hst hbd
              have hw6 := HBA.out.trans (hBt.mono HBA.out.size)
              have hV := HV.out r hltr
              obtain ⟨_, ar2, cr2, gr2, hvr2, har2, hcr2⟩ := hV
              have hvv := HVR.out
              rw [hvr2] at hvv
              obtain ⟨rfl, rfl⟩ : ar2 = some ⟨gr, 0, none⟩ ∧ cr2 = cr := by simpa using hvv
              obtain rfl : gr = gr2 := by simpa using har2
              have ct := cellB hw6 (hcr2 t hltt)
              rw [hxx] at ct
              have x0 := cellB hw6 HP6.out
              have co := hI2.cellAt x (by rw [hlen]; exact hx)
              have fo := hI2.frozenAt x
              obtain ⟨o, ho⟩ : ∃ o, (seenO p s r t).getD x 0 = o := ⟨_, rfl⟩
              rw [ho] at co hst hbd
              have HS := Lib.hid (hI2.stored x (o + 1))
              have HB3 := Lib.hid (hI2.below hBt hzt HS.out.2)
              have HST := Lib.hid hst
              have hwo : IntKind.i64.wrap (o + 1) = o + 1 := by rw [IntKind.wrap_i64]; omega
              have x1 : ¬ (x : Int) < 0 := by omega
              have x2 : (x : Int) < (p : Int) := by omega
              have x3 : ¬ (p : Int) ≤ (x : Int) := by omega
              have x4 : 0 ≤ (x : Int) := by omega
              have t0 : 0 ≤ (t : Int) := by omega
              have t1 : (t : Int) < (j : Int) := by omega
              clear hst hbd ho hxx hw6 hvr2 har2 hcr2 hvv hI2 hrj hlen
              go_wp2
              go_roundw
              case rel => exact ⟨t + 1, by omega, by go_num, by rw [← HST.out]; exact HS.out.1, HB3.out⟩
              case measure => simp [intOf]; omega
            · obtain rfl : t = j := by omega
              have HI3 := Lib.hid hI2
              clear hI2
              go_wp2
              go_roundw
              case rel => exact ⟨r + 1, by omega, by go_num, by rw [← seenO_next, HLG.out]; exact HI3.out, hBt⟩
              case measure => simp [intOf]; omega
        · obtain rfl : r = g := by omega
          have hlen := seenO_length p s r 0
          have HEND : Hid (∀ x, x < p → wr.cell? ⟨wa.heap.size, x, none⟩ = some (.int .i64 1)) := Lib.hid (fun x hx => by
            have e := HIr.out.cellAt x (by rw [hlen]; exact hx)
            rw [e]
            have q := seenO_end p s (by omega) x hx
            rw [HG.out] at q
            rw [q])
          obtain ⟨wo, rfl⟩ : ∃ z, z = wr := ⟨wr, rfl⟩
          have HBO := Lib.hid hBr
          clear hlen
          go_wp2
          go_loop [165] (fun i => ∃ x : Nat, x ≤ p ∧ i = .int .i64 x) (fun i => p - (intOf i).toNat)
          case atStart => exact ⟨0, by omega, rfl⟩
          case round =>
            obtain ⟨x, hx, rfl⟩ := hrel
            by_cases hltx : x < p
            · have cx := HEND.out x hltx
              have x4 : 0 ≤ (x : Int) := by omega
              have x5 : (x : Int) < (p : Int) := by omega
              go_wp2
              go_round
              case rel => exact ⟨x + 1, by omega, by go_num⟩
              case measure => simp [intOf]; omega
            · obtain rfl : x = p := by omega
              go_wp2
              go_ret
              exact ⟨rfl, HB6.out.trans ((HBA.out.trans (HBO.out.mono HBA.out.size)).mono (by have := HN6.out; omega))⟩

set_option maxRecDepth 100000 in
set_option maxHeartbeats 1000000 in
theorem not_StarOnce (p s k : Int) (w : World) (h : ¬ (3 ≤ p ∧ p ≤ 60 ∧ 1 ≤ s ∧ s < p)) :
    Calls Try.prog 6 #[.agg #[.int .i64 p, .int .i64 s], .int .i64 k] w fun e w' => e = .returned (.bool true) ∧ Below w.heap.size w w' := by
  have C1 := Lib.hid (fun W => isStar_no p s W h)
  have C2 := Lib.hid (fun W => sIsStar_no p s W h)
  clear h
  have p0_0' : (w.alloc (.cells #[.int .i64 p, .int .i64 s] 23)).cell? ⟨w.heap.size, 0, none⟩ = some (.int .i64 p) := by go_simp
  have q0_0' : (w.alloc (.cells #[.int .i64 p, .int .i64 s] 23)).cell? ⟨w.heap.size, 1, none⟩ = some (.int .i64 s) := by go_simp
  have p0_0 := Lib.hid p0_0'
  have q0_0 := Lib.hid q0_0'
  clear p0_0' q0_0'
  go_enter Try.func6, Try.ntmps6
  go_wp2
  go_region_held3 (fun w' => w'.cell? ⟨w.heap.size, 0, none⟩ = some (.int .i64 p) ∧ w'.cell? ⟨w.heap.size, 1, none⟩ = some (.int .i64 s)) (go_keep)
    (first | (go_at_call 28; refine (C1.out _).mono ?_; rintro e w1 ⟨rfl, hbx1⟩; (have n1 : w.heap.size + 1 ≤ w1.heap.size := by have := hbx1.size; simp at this; omega); (have B1 : Below w.heap.size w w1 := Below.trans (by go_grown) (hbx1.mono (by first | (simp; done) | (simp; omega)))); (have p0_1 := cellB hbx1 (b := w.heap.size) (o := 0) (x := .int .i64 p) (by go_simp)); (have q0_1 := cellB hbx1 (b := w.heap.size) (o := 1) (x := .int .i64 s) (by go_simp))) | (go_at_call 29; refine (C2.out _).mono ?_; rintro e w2 ⟨rfl, hbx2⟩; (have hb2 : Below w1.heap.size w1 w2 := Below.trans (by go_grown) (hbx2.mono (by first | omega | (simp; done) | (simp; omega)))); have n2 := hb2.size; have B2 := B1.trans (hb2.mono (by omega)); have p0_2 := cellB hb2 p0_1; have q0_2 := cellB hb2 q0_1))
  go_wp2_with fail
  refine (C1.out _).mono ?_
  rintro e w3 ⟨rfl, hb3⟩
  have n3 := hb3.size
  have B3 := B2.trans (hb3.mono (by omega))
  have p0_3 := cellB hb3 p0_2
  have q0_3 := cellB hb3 q0_2
  clear p0_2 q0_2
  go_wp2
  go_ret
  exact ⟨rfl, B3⟩

set_option maxRecDepth 100000 in
set_option maxHeartbeats 1000000 in
theorem low_StarOnce (p s k : Int) (w : World) (h : 3 ≤ p ∧ p ≤ 60 ∧ 1 ≤ s ∧ s < p) (hk : k < 0) :
    Calls Try.prog 6 #[.agg #[.int .i64 p, .int .i64 s], .int .i64 k] w fun e w' => e = .returned (.bool true) ∧ Below w.heap.size w w' := by
  have C1 := Lib.hid (fun W => isStar_yes p s W h)
  have C2 := Lib.hid (fun W => sIsStar_yes p s W h)
  clear h
  have p0_0' : (w.alloc (.cells #[.int .i64 p, .int .i64 s] 23)).cell? ⟨w.heap.size, 0, none⟩ = some (.int .i64 p) := by go_simp
  have q0_0' : (w.alloc (.cells #[.int .i64 p, .int .i64 s] 23)).cell? ⟨w.heap.size, 1, none⟩ = some (.int .i64 s) := by go_simp
  have p0_0 := Lib.hid p0_0'
  have q0_0 := Lib.hid q0_0'
  clear p0_0' q0_0'
  go_enter Try.func6, Try.ntmps6
  go_wp2
  go_region_held3 (fun w' => w'.cell? ⟨w.heap.size, 0, none⟩ = some (.int .i64 p) ∧ w'.cell? ⟨w.heap.size, 1, none⟩ = some (.int .i64 s)) (go_keep)
    (first | (go_at_call 28; refine (C1.out _).mono ?_; rintro e w1 ⟨rfl, hbx1⟩; (have n1 : w.heap.size + 1 ≤ w1.heap.size := by have := hbx1.size; simp at this; omega); (have B1 : Below w.heap.size w w1 := Below.trans (by go_grown) (hbx1.mono (by first | (simp; done) | (simp; omega)))); (have p0_1 := cellB hbx1 (b := w.heap.size) (o := 0) (x := .int .i64 p) (by go_simp)); (have q0_1 := cellB hbx1 (b := w.heap.size) (o := 1) (x := .int .i64 s) (by go_simp))) | (go_at_call 29; refine (C2.out _).mono ?_; rintro e w2 ⟨rfl, hbx2⟩; (have hb2 : Below w1.heap.size w1 w2 := Below.trans (by go_grown) (hbx2.mono (by first | omega | (simp; done) | (simp; omega)))); have n2 := hb2.size; have B2 := B1.trans (hb2.mono (by omega)); have p0_2 := cellB hb2 p0_1; have q0_2 := cellB hb2 q0_1))
  go_wp2_with fail
  refine (C1.out _).mono ?_
  rintro e w3 ⟨rfl, hb3⟩
  have n3 := hb3.size
  have B3 := B2.trans (hb3.mono (by omega))
  have p0_3 := cellB hb3 p0_2
  have q0_3 := cellB hb3 q0_2
  clear p0_2 q0_2
  go_wp2
  go_ret
  exact ⟨rfl, B3⟩

set_option maxRecDepth 100000 in
set_option maxHeartbeats 1000000 in
theorem high_StarOnce (p s k : Int) (w : World) (h : 3 ≤ p ∧ p ≤ 60 ∧ 1 ≤ s ∧ s < p) (hk0 : ¬ k < 0) (hk : p ≤ k) :
    Calls Try.prog 6 #[.agg #[.int .i64 p, .int .i64 s], .int .i64 k] w fun e w' => e = .returned (.bool true) ∧ Below w.heap.size w w' := by
  have C1 := Lib.hid (fun W => isStar_yes p s W h)
  have C2 := Lib.hid (fun W => sIsStar_yes p s W h)
  have hk1 : ¬ k < p := by omega
  clear h
  have p0_0' : (w.alloc (.cells #[.int .i64 p, .int .i64 s] 23)).cell? ⟨w.heap.size, 0, none⟩ = some (.int .i64 p) := by go_simp
  have q0_0' : (w.alloc (.cells #[.int .i64 p, .int .i64 s] 23)).cell? ⟨w.heap.size, 1, none⟩ = some (.int .i64 s) := by go_simp
  have p0_0 := Lib.hid p0_0'
  have q0_0 := Lib.hid q0_0'
  clear p0_0' q0_0'
  go_enter Try.func6, Try.ntmps6
  go_wp2
  go_region_held3 (fun w' => w'.cell? ⟨w.heap.size, 0, none⟩ = some (.int .i64 p) ∧ w'.cell? ⟨w.heap.size, 1, none⟩ = some (.int .i64 s)) (go_keep)
    (first | (go_at_call 28; refine (C1.out _).mono ?_; rintro e w1 ⟨rfl, hbx1⟩; (have n1 : w.heap.size + 1 ≤ w1.heap.size := by have := hbx1.size; simp at this; omega); (have B1 : Below w.heap.size w w1 := Below.trans (by go_grown) (hbx1.mono (by first | (simp; done) | (simp; omega)))); (have p0_1 := cellB hbx1 (b := w.heap.size) (o := 0) (x := .int .i64 p) (by go_simp)); (have q0_1 := cellB hbx1 (b := w.heap.size) (o := 1) (x := .int .i64 s) (by go_simp))) | (go_at_call 29; refine (C2.out _).mono ?_; rintro e w2 ⟨rfl, hbx2⟩; (have hb2 : Below w1.heap.size w1 w2 := Below.trans (by go_grown) (hbx2.mono (by first | omega | (simp; done) | (simp; omega)))); have n2 := hb2.size; have B2 := B1.trans (hb2.mono (by omega)); have p0_2 := cellB hb2 p0_1; have q0_2 := cellB hb2 q0_1))
  go_wp2_with fail
  refine (C1.out _).mono ?_
  rintro e w3 ⟨rfl, hb3⟩
  have n3 := hb3.size
  have B3 := B2.trans (hb3.mono (by omega))
  have p0_3 := cellB hb3 p0_2
  have q0_3 := cellB hb3 q0_2
  clear p0_2 q0_2
  go_wp2
  go_ret
  exact ⟨rfl, B3⟩

theorem walk_FnStarOnce (p s k : Int) (w : World) (_ : (Lit.int .i64 p).wf = true) (_ : (Lit.int .i64 s).wf = true) (_ : (Lit.int .i64 k).wf = true) :
    Calls Try.prog 6 #[.agg #[.int .i64 p, .int .i64 s], .int .i64 k] w fun e w' => e = .returned (.bool true) ∧ Below w.heap.size w w' := by
  by_cases h : 3 ≤ p ∧ p ≤ 60 ∧ 1 ≤ s ∧ s < p
  · by_cases h0 : k < 0
    · exact low_StarOnce p s k w h h0
    · by_cases h1 : p ≤ k
      · exact high_StarOnce p s k w h h0 h1
      · obtain ⟨p, rfl⟩ := Int.eq_ofNat_of_zero_le (show 0 ≤ p by omega)
        obtain ⟨s, rfl⟩ := Int.eq_ofNat_of_zero_le (show 0 ≤ s by omega)
        obtain ⟨k, rfl⟩ := Int.eq_ofNat_of_zero_le (show 0 ≤ k by omega)
        exact core_StarOnce p s k w (by omega) (by omega)
  · exact not_StarOnce p s k w h
end Go.Proofs.Ytlkehdjfmmghjab
