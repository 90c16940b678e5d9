/- EndRegions: how many pairs each region is in, by the program. -/
import Derived.Test.YtpliaenpencocabRW
namespace Go.Proofs.Ytpliaenpencocab
open Go.RowKit
set_option linter.unusedVariables false

/-- One more at a place; at all places of a list; at those of the first j lists. -/
def incN (c : List Int) (k : Nat) : List Int := c.set k (c.getD k 0 + 1)
def incL (c : List Int) (p : List Int) : List Int := p.foldl (fun c k => incN c k.toNat) c
def timesN (ps : List (List Int)) (m j : Nat) : List Int := (ps.take j).foldl incL (List.replicate m 0)

/-- So many places, with numbers up to b. -/
def BndL (c : List Int) (m : Nat) (b : Int) : Prop := c.length = m ∧ ∀ k, 0 ≤ c.getD k 0 ∧ c.getD k 0 ≤ b

theorem incN_bnd {c : List Int} {m : Nat} {b : Int} (h : BndL c m b) (k : Nat) : BndL (incN c k) m (b + 1) := by
  refine ⟨by simp [incN, h.1], fun i => ?_⟩
  have hi := h.2 i
  have hk := h.2 k
  unfold incN
  by_cases e : i = k
  · subst e
    by_cases hl : i < c.length
    · rw [getD_set_self hl]; omega
    · rw [List.set_eq_of_length_le (by omega)]; omega
  · rw [getD_set_ne e]; omega

theorem incL_take (c p : List Int) (q : Nat) (hq : q < p.length) : incL c (p.take (q + 1)) = incN (incL c (p.take q)) (p.getD q 0).toNat := by
  unfold incL
  rw [List.take_succ_eq_append_getElem hq, List.foldl_append, List.getD_eq_getElem?_getD, List.getElem?_eq_getElem hq]
  rfl

theorem incL_bnd {c : List Int} {m : Nat} {b : Int} (h : BndL c m b) (p : List Int) (q : Nat) (hq : q ≤ p.length) : BndL (incL c (p.take q)) m (b + q) := by
  induction q with
  | zero => simpa [incL] using h
  | succ q ih =>
    rw [incL_take c p q (by omega)]
    have := incN_bnd (ih (by omega)) (p.getD q 0).toNat
    rw [show b + ((q + 1 : Nat) : Int) = b + (q : Int) + 1 by omega]
    exact this

theorem timesN_succ (ps : List (List Int)) (m j : Nat) (hj : j < ps.length) : timesN ps m (j + 1) = incL (timesN ps m j) (ps.getD j []) := by
  unfold timesN
  rw [List.take_succ_eq_append_getElem hj, List.foldl_append, List.getD_eq_getElem?_getD, List.getElem?_eq_getElem hj]
  rfl

theorem timesN_bnd {ps : List (List Int)} {m : Nat} (h2 : ∀ p ∈ ps, p.length = 2) (j : Nat) (hj : j ≤ ps.length) : BndL (timesN ps m j) m (2 * j) := by
  induction j with
  | zero =>
    refine ⟨by simp [timesN], fun k => ?_⟩
    have : (List.replicate m (0 : Int)).getD k 0 = 0 := by
      rw [List.getD_eq_getElem?_getD, List.getElem?_replicate]; split <;> rfl
    have e : timesN ps m 0 = List.replicate m 0 := rfl
    rw [e, this]
    omega
  | succ j ih =>
    rw [timesN_succ ps m j (by omega)]
    have hl : (ps.getD j []).length = 2 := h2 _ (getD_mem ps j [] (by omega))
    have := incL_bnd (ih (by omega)) (ps.getD j []) 2 (by omega)
    rw [List.take_of_length_le (by omega)] at this
    rw [show (2 * ((j + 1 : Nat) : Int)) = 2 * (j : Int) + ((2 : Nat) : Int) by omega]
    exact this

/-- The regions in just one pair. -/
def endC (ps : List (List Int)) (m : Nat) (k : Nat) : Bool := (timesN ps m ps.length).getD k 0 == 1
def endL (ps : List (List Int)) (m : Nat) : List Int := selT (endC ps m) m

theorem nextL_at {n : Nat} {xs : List (Int × Int)} (hg : goodC n xs) (hpl : allP xs xs.length = []) (j : Nat) (hj : j < (allN (regL n xs) (regL n xs).length).length) :
    ∃ a b : Nat, a < xs.length + 1 ∧ b < xs.length + 1 ∧ (allN (regL n xs) (regL n xs).length).getD j [] = [(a : Int), (b : Int)] := by
  obtain ⟨a, b, hab, hb, _, he⟩ := mem_allN.1 (getD_mem _ j [] hj)
  have := regL_length hg hpl
  exact ⟨a, b, by omega, by omega, he⟩

/-! the closure -/
set_option maxHeartbeats 400000 in
theorem endFn (k gc g m : Nat) (cs : List Int) (t : Bool) (w : World) (hk : k < m) (hI : ∀ i, i < m → w.cell? ⟨g, i, none⟩ = some (.int .i64 (cs.getD i 0))) (hc : w.cell? ⟨gc, 0, none⟩ = some (.slice (some ⟨g, 0, none⟩) m m)) (ht : (cs.getD k 0 == 1) = t) :
    Calls Try.prog 75 #[.int .i64 (k : Int), .pointer (some ⟨gc, 0, none⟩)] w fun e w' => e = .returned (.bool t) ∧ Below w.heap.size w w' := by
  have e0 := hI k hk
  obtain ⟨x, hx⟩ : ∃ x, cs.getD k 0 = x := ⟨_, rfl⟩
  rw [hx] at e0 ht
  have k1 : 0 ≤ (k : Int) := by omega
  have k2 : (k : Int) < (m : Int) := by omega
  have HT := Lib.hid ht
  clear hI hx ht
  go_enter Try.func75, Try.ntmps75
  go_wp2
  go_ret
  exact ⟨by rw [HT.out]; rfl, Below.refl _ _⟩

set_option maxHeartbeats 1000000 in
theorem where_end (p : Nat) (gc g m : Nat) (cs : List Int) (c : Nat → Bool) (w : World) (h : p ≤ 1000) (hp : p = m) (hI : ∀ i, i < m → w.cell? ⟨g, i, none⟩ = some (.int .i64 (cs.getD i 0))) (hc : w.cell? ⟨gc, 0, none⟩ = some (.slice (some ⟨g, 0, none⟩) m m)) (hcd : ∀ k, k < p → (cs.getD k 0 == 1) = c k) :
    Calls Try.prog 74 #[.int .i64 p, .func (.func 75) #[] #[.pointer (some ⟨gc, 0, none⟩)]] w (GivesT w (selT c p)) := by
  have HCD := Lib.hid hcd
  have HII := Lib.hid hI
  have HCC := Lib.hid hc
  have HPM := Lib.hid hp
  clear hcd hI hc hp
  go_enter Try.func74, Try.ntmps74
  go_wp2
  go_loopw [5, 8] (fun u i wr => ∃ k : Nat, k ≤ p ∧ i = .int .i64 k ∧ Ints wr w.heap.size 3 u (selT c k) ∧ Below w.heap.size w wr) (fun _ i _ => p - (intOf i).toNat)
  case atStart => exact ⟨0, by omega, rfl, World.ownsRow_nil _ _ _ _, Below.refl _ _⟩
  case round =>
    obtain ⟨k, hk, rfl, hI, hB⟩ := hrel
    have HI := Lib.hid hI
    have hz := hB.size
    clear hI
    by_cases hlt : k < p
    · have hlen := selT_length c k
      have HC2 := Lib.hid (cellB hB HCC.out)
      cases hcb : c k with
      | true =>
        have HS := Lib.hid (selT_yes c k hcb)
        have HCB := Lib.hid hcb
        clear hcb
        go_wp2_with (first
          | (go_at_call 75; (refine (endFn k gc g m cs true _ (by have := HPM.out; omega) (fun i hi => cellB hB (HII.out i hi)) HC2.out ((HCD.out k hlt).trans HCB.out)).mono ?_); rintro e w1 ⟨rfl, hb1⟩; have HI1 := Lib.hid (HI.out.later hb1); have hB1 := hB.trans (hb1.mono hz); have hz1 := hB1.size)
          | (at_builtin; refine wpList_append_int rfl _ _ 46 rfl (w.heap.size) 3 Try.underlying46 info_int _ _ rfl HI1.out (k : Int) rfl (by omega) (by omega) ?_; intro v' w' hI' hg'; have hB' := HI1.out.below hB1 hz1 hg'; rw [HS.out] at hI'; have HI' := Lib.hid hI'; clear hI'))
        go_roundw
        case rel => exact ⟨k + 1, by omega, by go_num, HI'.out, hB'⟩
        case measure => simp [intOf]; omega
      | false =>
        have HS := Lib.hid (selT_no c k hcb)
        have HCB := Lib.hid hcb
        clear hcb
        go_wp2_with (first
          | (go_at_call 75; (refine (endFn k gc g m cs false _ (by have := HPM.out; omega) (fun i hi => cellB hB (HII.out i hi)) HC2.out ((HCD.out k hlt).trans HCB.out)).mono ?_); rintro e w1 ⟨rfl, hb1⟩; have HI1 := Lib.hid (HI.out.later hb1); have hB1 := hB.trans (hb1.mono hz)))
        go_roundw
        case rel => exact ⟨k + 1, by omega, by go_num, by rw [← HS.out]; exact HI1.out, hB1⟩
        case measure => simp [intOf]; omega
    · obtain rfl : k = p := by omega
      go_wp2
      go_ret
      exact ⟨_, rfl, HI.out, hB⟩

set_option maxHeartbeats 2000000 in
theorem endRegions_any (n : Nat) (a0 : Option Addr) (cap : Nat) (xs : List (Int × Int)) (B T : Nat) (w : World) (h : PairsIn 67 w B T (.slice a0 xs.length cap) xs) (hT : T ≤ w.heap.size) (hg : goodC n xs) (hpl : allP xs xs.length = []) :
    Calls Try.prog 48 #[.agg #[.int .i64 n, .slice a0 xs.length cap]] w (GivesT w (endL (allN (regL n xs) (regL n xs).length) (xs.length + 1))) := by
  have hxl := hg.2.1
  have HORD := Lib.hid (chord_order hg)
  have HAT := Lib.hid (nextL_at hg hpl)
  have hNL := nextL_length hg hpl
  have HTW := Lib.hid (fun (p : List Int) (hp : p ∈ allN (regL n xs) (regL n xs).length) => nextL_two hp)
  have hcr : 1 + (xs.length : Int) + ((allP xs xs.length).length : Int) = ((xs.length + 1 : Nat) : Int) := by rw [hpl]; simp; omega
  have hHN := Lib.hid (fun W hW1 hW2 => neighbours_any n a0 cap xs B T W hW1 hW2 hg hpl)
  obtain ⟨N, hN⟩ : ∃ N, allN (regL n xs) (regL n xs).length = N := ⟨_, rfl⟩
  rw [hN] at HAT hNL HTW hHN ⊢
  have hN40 : N.length ≤ 40 := by omega
  obtain ⟨m, hm⟩ : ∃ m, xs.length + 1 = m := ⟨_, rfl⟩
  rw [hm] at HAT hcr ⊢
  have hm41 : m ≤ 41 := by omega
  have hm1 : 1 ≤ m := by omega
  have HCR := Lib.hid hcr
  have hmk := make_ints (P := Try.prog) Try.underlying46 info_int m (by omega)
  clear hcr hN hNL hm
  go_enter Try.func48, Try.ntmps48
  go_wp2_with (first
    | (go_at_call 73; (refine (countRegionsD n a0 cap xs B T _ (h.keep (belowSame (by go_grown) hT)) (Nat.le_trans hT (by first | (simp; done) | (simp; omega))) HORD.out (by omega)).mono ?_); rw [HCR.out]; rintro e w1 ⟨rfl, hb1⟩; (have hB1 : Below w.heap.size w w1 := Below.trans (by go_grown) (hb1.mono (by first | omega | (simp; done) | (simp; omega)))); have hz1 := hB1.size; (have hzz : w.heap.size < w1.heap.size := by have := hb1.size; simp at this; omega); (have k0 : w1.cell? ⟨w.heap.size, 0, none⟩ = some (.int .i64 n) := cellB hb1 (by go_simp)); (have k1 : w1.cell? ⟨w.heap.size, 1, none⟩ = some (.slice a0 xs.length cap) := cellB hb1 (by go_simp)); (have l0 : ((w1.alloc (.cells (zeroInts m) 3)).alloc (.cells #[.slice (some ⟨w1.heap.size, 0, none⟩) m m] 46)).cell? ⟨w.heap.size, 0, none⟩ = some (.int .i64 n) := cellB (by go_grown) k0); (have l1 : ((w1.alloc (.cells (zeroInts m) 3)).alloc (.cells #[.slice (some ⟨w1.heap.size, 0, none⟩) m m] 46)).cell? ⟨w.heap.size, 1, none⟩ = some (.slice a0 xs.length cap) := cellB (by go_grown) k1))
    | (go_at_call 45; (refine (hHN.out _ (h.keep (belowSame (Below.trans hB1 (by go_grown)) hT)) (by simp; omega)).mono ?_); rintro e w2 ⟨v, rfl, hI, hb2⟩; (have hI0 := Lib.hid ((((Ints.made w1 w1.heap.size 3 m (Nat.le_refl _) (by omega)).later (by go_grown : Below _ _ ((w1.alloc (.cells (zeroInts m) 3)).alloc (.cells #[.slice (some ⟨w1.heap.size, 0, none⟩) m m] 46))))).later hb2)); (have hbox : w2.cell? ⟨w1.heap.size + 1, 0, none⟩ = some (.slice (some ⟨w1.heap.size, 0, none⟩) m m) := cellB hb2 (by go_simp)); (have hB2 : Below w1.heap.size w1 w2 := Below.trans (by go_grown) (hb2.mono (by simp; omega))); have hz2 := hb2.size; obtain ⟨vN, hR⟩ := hI; obtain ⟨ar, cr, gr, rfl, har, _, hcrr, _⟩ := hR.view; have HR := Lib.hid hR; have HAR := Lib.hid har; have HCRR := Lib.hid hcrr; clear hR har hcrr))
  go_loopw [14] (fun i wr => ∃ j : Nat, j ≤ N.length ∧ i = .int .i64 (j : Int) ∧ Hid (Ints wr w1.heap.size 3 (.slice (some ⟨w1.heap.size, 0, none⟩) m m) (timesN N m j)) ∧ Hid (Only w1.heap.size (w1.heap.size + 1) w2 wr)) (fun i _ => N.length - (intOf i).toNat)
  case atStart => exact ⟨0, by omega, rfl, hI0, Lib.hid (Only.refl _ _ _)⟩
  case round =>
    obtain ⟨j, hj, rfl, HI, HO⟩ := hrel
    have hzr := HO.out.size
    by_cases hlt : j < N.length
    · obtain rfl := HAR.out (by omega)
      obtain ⟨a, b, ha, hb, hab⟩ := HAT.out j hlt
      have e0 := HCRR.out j hlt
      have hrow := HR.out.rows j hlt
      have hgr := HR.out.outer.lt gr rfl
      rw [hab] at hrow
      obtain ⟨rv, hrv⟩ : ∃ rv, vN.getD j (Value.slice none 0 0) = rv := ⟨_, rfl⟩
      rw [hrv] at hrow e0
      obtain ⟨a3, c3, g3, rfl, ha3, _, _, _, hc3, _⟩ := hrow.1.view
      obtain rfl := ha3 (by simp)
      have hg3 := hrow.1.own g3 rfl
      simp only [World.size_alloc] at hgr hg3
      have p0 : w2.cell? ⟨g3, 0, none⟩ = some (.int .i64 (a : Int)) := hc3 0 (by simp)
      have p1 : w2.cell? ⟨g3, 1, none⟩ = some (.int .i64 (b : Int)) := hc3 1 (by simp)
      have e1 := HO.out.cell (.inr (by omega)) e0
      have P0 := Lib.hid p0
      have P1 := Lib.hid p1
      have HBOX := Lib.hid hbox
      have HTS := Lib.hid (timesN_succ N m j hlt)
      have HBD := Lib.hid (timesN_bnd (m := m) HTW.out j hj)
      have HAB := Lib.hid hab
      have j1 : 0 ≤ (j : Int) := by omega
      have j2 : (j : Int) < (N.length : Int) := by omega
      have hlen2 : (([(a : Int), (b : Int)] : List Int).length : Int) = 2 := rfl
      clear hrow hrv hc3 ha3 e0 p0 p1 hab
      go_wp2
      go_loopw [20] (fun i wq => ∃ q : Nat, q ≤ 2 ∧ i = .int .i64 (q : Int) ∧ Hid (Ints wq w1.heap.size 3 (.slice (some ⟨w1.heap.size, 0, none⟩) m m) (incL (timesN N m j) (([(a : Int), (b : Int)] : List Int).take q))) ∧ Hid (Only w1.heap.size (w1.heap.size + 1) w2 wq)) (fun i _ => 2 - (intOf i).toNat)
      case atStart => exact ⟨0, by omega, rfl, HI, HO⟩
      case round =>
        clear HI HO hzr e1
        obtain ⟨q, hq, rfl, HI, HO⟩ := hrel
        have hzr := HO.out.size
        by_cases hql : q < 2
        · obtain ⟨c, hcm, hy, cq⟩ : ∃ c : Nat, c < m ∧ ([(a : Int), (b : Int)] : List Int).getD q 0 = (c : Int) ∧ wr.cell? ⟨g3, q, none⟩ = some (.int .i64 (c : Int)) := by
            rcases (show q = 0 ∨ q = 1 by omega) with rfl | rfl
            · exact ⟨a, ha, rfl, HO.out.cell (.inr (by omega)) P0.out⟩
            · exact ⟨b, hb, rfl, HO.out.cell (.inr (by omega)) P1.out⟩
          have hst := incL_take (timesN N m j) [(a : Int), (b : Int)] q (by simpa using hql)
          have hbd := incL_bnd HBD.out [(a : Int), (b : Int)] q (by simpa using hq)
          rw [hy] at hst
          simp only [Int.toNat_natCast] at hst
          obtain ⟨cs, hcs⟩ : ∃ cs, incL (timesN N m j) (([(a : Int), (b : Int)] : List Int).take q) = cs := ⟨_, rfl⟩
          rw [hcs] at HI hst hbd
          have d0 := HI.out.cellAt c (by have := hbd.1; omega)
          have f0 := HI.out.frozenAt c
          have b0 := HO.out.cell (.inr (Nat.le_refl _)) HBOX.out
          have hv := hbd.2 c
          obtain ⟨old, hold⟩ : ∃ old, cs.getD c 0 = old := ⟨_, rfl⟩
          rw [hold] at d0 hv
          have hw : IntKind.i64.wrap (old + 1) = old + 1 := by rw [IntKind.wrap_i64]; omega
          have hin : incN cs c = cs.set c (old + 1) := by unfold incN; rw [hold]
          have HS := Lib.hid (HI.out.stored c (old + 1))
          have HST := Lib.hid (hst.trans hin)
          have c1 : 0 ≤ (c : Int) := by omega
          have c2 : (c : Int) < (m : Int) := by omega
          have q1 : 0 ≤ (q : Int) := by omega
          have q2 : (q : Int) < 2 := by omega
          clear hst hbd hcs hold hin hy hv
          go_wp2
          go_roundw
          case rel => exact ⟨q + 1, by omega, by go_num, Lib.hid (by rw [HST.out]; exact HS.out.1), Lib.hid (HO.out.trans (Only.of_grown (v := Value.slice (some ⟨w1.heap.size, 0, none⟩) m m) HS.out.2 (fun k hk => by simp [Value.ownBlock] at hk; omega)))⟩
          case measure => simp [intOf]; omega
        · obtain rfl : q = 2 := by omega
          go_wp2
          go_roundw
          case rel => exact ⟨j + 1, by omega, by go_num, Lib.hid (by rw [HTS.out, HAB.out]; exact HI.out), HO⟩
          case measure => simp [intOf]; omega
    · obtain rfl : j = N.length := by omega
      have b0 := HO.out.cell (.inr (Nat.le_refl _)) hbox
      have hbd := (timesN_bnd (m := m) HTW.out N.length hj).1
      have HC := Lib.hid (fun i (hi : i < m) => HI.out.cellAt i (by omega))
      have hB3 : Below w.heap.size w wr := (hB1.trans (hB2.mono hz1)).trans (HO.out.below (by omega) (by have := hB2.size; omega))
      have hz3 := hB3.size
      have B0 := Lib.hid b0
      go_wp2_with (first | (go_at_call 74; (refine (where_end m (w1.heap.size + 1) w1.heap.size m (timesN N m N.length) (endC N m) _ (by omega) rfl HC.out B0.out (fun k _ => rfl)).mono ?_); rintro e w3 ⟨v, rfl, hI3, hb3⟩))
      go_ret
      exact ⟨_, rfl, hI3.mono hz3, hB3.trans (hb3.mono hz3)⟩
end Go.Proofs.Ytpliaenpencocab
