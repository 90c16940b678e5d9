/- The region at an arc, by the program. -/
import Derived.Test.YtmfbbbnenngehabRM
import Derived.Test.YtmfbbbnenngehabW2
import Derived.Deep.RegionHeld3
namespace Go.Proofs.Ytmfbbbnenngehab
open Go.RowKit
set_option linter.unusedVariables false

set_option maxHeartbeats 400000 in
theorem chordBt_any (a b : Int) (w : World) :
    Calls Try.prog 71 #[.int .i64 a, .int .i64 b] w fun e w' => e = .returned (.agg #[.int .i64 (min a b), .int .i64 (max a b)]) ∧ Below w.heap.size w w' := by
  rcases Int.lt_trichotomy a b with h | h | h
  · have h1 : min a b = a := by omega
    have h2 : max a b = b := by omega
    have h3 : ¬ b < a := by omega
    go_enter Try.func71, Try.ntmps71
    go_wp2
    go_returns
    exact ⟨rfl, by go_grown⟩
  · subst h
    have h1 : min a a = a := by omega
    have h2 : max a a = a := by omega
    go_enter Try.func71, Try.ntmps71
    go_wp2
    go_returns
    exact ⟨by rw [h1, h2], by go_grown⟩
  · have h1 : min a b = b := by omega
    have h2 : max a b = a := by omega
    have h3 : ¬ a < b := by omega
    go_enter Try.func71, Try.ntmps71
    go_wp2
    go_returns
    exact ⟨rfl, by go_grown⟩

theorem cmpI_lt (a b : Nat) : cmpI (a : Int) (b : Int) < 0 ↔ a < b := by
  unfold cmpI
  split
  · omega
  · split <;> omega

set_option maxHeartbeats 1000000 in
theorem lenFn (j k gr : Nat) (ao : Option Addr) (capo : Nat) (L : List (List Int)) (vs : List Value) (B T : Nat) (z : Int) (w : World) (hR : RowsAt 34 3 w B T (.slice ao L.length capo) vs L) (hj : j < L.length) (hk : k < L.length)
    (hcr : w.cell? ⟨gr, 0, none⟩ = some (.slice ao L.length capo)) (hz : cmpI (((L.getD j []).length : Nat) : Int) (((L.getD k []).length : Nat) : Int) = z) :
    Calls Try.prog 73 #[.int .i64 (j : Int), .int .i64 (k : Int), .pointer (some ⟨gr, 0, none⟩)] w fun e w' => e = .returned (.int .i64 z) ∧ Below w.heap.size w w' := by
  obtain ⟨a1, c1, g, hv, ha1, _, hc1, _⟩ := hR.view
  obtain ⟨rfl, _, rfl⟩ : ao = a1 ∧ L.length = L.length ∧ capo = c1 := by simpa using hv
  obtain rfl := ha1 (by omega)
  have e0 := hc1 j hj
  have e1 := hc1 k hk
  obtain ⟨a2, c2, h2⟩ := (hR.rows j hj).1.openedR
  obtain ⟨a3, c3, h3⟩ := (hR.rows k hk).1.openedR
  rw [h2] at e0
  rw [h3] at e1
  have j1 : 0 ≤ (j : Int) := by omega
  have j2 : (j : Int) < (L.length : Int) := by omega
  have k1 : 0 ≤ (k : Int) := by omega
  have k2 : (k : Int) < (L.length : Int) := by omega
  obtain ⟨p, hp⟩ : ∃ p, (L.getD j []).length = p := ⟨_, rfl⟩
  obtain ⟨q, hq⟩ : ∃ q, (L.getD k []).length = q := ⟨_, rfl⟩
  rw [hp] at e0 hz
  rw [hq] at e1 hz
  have HZ := Lib.hid hz
  have hci := Lib.hid (fun W => (by have := cmpInt_any (p : Int) (q : Int) W; rw [HZ.out] at this; exact this : Calls Try.prog 74 #[.int .i64 (p : Int), .int .i64 (q : Int)] W fun e w' => e = .returned (.int .i64 z) ∧ W = w'))
  clear hR hc1 h2 h3 hp hq hv ha1 hz
  go_enter Try.func73, Try.ntmps73
  go_wp2
  go_quiet ((go_at_call 74; (with_reducible exact quietP (hci.out _))))
  go_wp2
  go_ret
  exact ⟨rfl, bdn (Below.refl _ _) _⟩

theorem minN_step (f : Nat → Nat) (m : Nat) (t : List Nat) (k : Nat) (hk : k < t.length) : minN f m (t.take (k + 1)) = if f (t.getD k 0) < f (minN f m (t.take k)) then t.getD k 0 else minN f m (t.take k) := by
  unfold minN
  rw [List.take_succ_eq_append_getElem hk, List.foldl_append, List.getD_eq_getElem?_getD, List.getElem?_eq_getElem hk]
  rfl

theorem minN_mem (f : Nat → Nat) (t : List Nat) : ∀ m, minN f m t ∈ m :: t := by
  induction t with
  | nil => intro m; simp [minN]
  | cons x t ih =>
    intro m
    have e : minN f m (x :: t) = minN f (if f x < f m then x else m) t := rfl
    rw [e]
    split
    · exact List.mem_cons_of_mem _ (ih x)
    · rcases List.mem_cons.1 (ih m) with h | h
      · rw [h]; simp
      · simp [h]

set_option maxHeartbeats 2000000 in
theorem minFn_any (L : List (List Int)) (ao : Option Addr) (capo gr : Nat) (vs : List Value) (B T Bv : Nat) (m : Nat) (t : List Nat) (v : Value) (w : World) (hv : Ints w Bv 3 v ((m :: t).map fun (x : Nat) => (x : Int))) (hlt : ∀ x ∈ m :: t, x < L.length) (ht : t.length ≤ 1000)
    (hR : RowsAt 34 3 w B T (.slice ao L.length capo) vs L) (hT : T ≤ w.heap.size) (hcr : w.cell? ⟨gr, 0, none⟩ = some (.slice ao L.length capo)) :
    Calls Try.prog 72 #[v, .func (.func 73) #[] #[.pointer (some ⟨gr, 0, none⟩)]] w fun e w' => e = .returned (.int .i64 ((minN (fun (k : Nat) => (L.getD k []).length) m t : Nat) : Int)) ∧ Below w.heap.size w w' := by
  obtain ⟨a2, c2, g2, rfl, ha2, _, _, _, hc2, _⟩ := hv.view
  have e1 : ((m :: t).map fun (x : Nat) => (x : Int)).length = t.length + 1 := by simp
  rw [e1] at ha2 hc2 ⊢
  obtain rfl := ha2 (by omega)
  have hc0 := hc2 0 (by omega)
  have HC := Lib.hid (fun i (hi : i < t.length) => show w.cell? ⟨g2, i + 1, none⟩ = some (.int .i64 ((t.getD i 0 : Nat) : Int)) by
    rw [hc2 (i + 1) (by omega), List.map_cons, List.getD_cons_succ, List.getD_eq_getElem?_getD, List.getElem?_map, List.getD_eq_getElem?_getD, List.getElem?_eq_getElem hi]; rfl)
  rw [List.map_cons, List.getD_cons_zero] at hc0
  have HLT := Lib.hid hlt
  have HR := Lib.hid hR
  have HCR := Lib.hid hcr
  obtain ⟨n, hn⟩ : ∃ n, t.length = n := ⟨_, rfl⟩
  rw [hn] at HC ht ⊢
  have HN := Lib.hid hn
  clear hc2 ha2 hv hlt hR hcr hn e1
  go_enter Try.func72, Try.ntmps72
  go_wp2
  go_loopw [5, 6] (fun mv iv wr => ∃ k : Nat, k ≤ n ∧ mv = .int .i64 ((minN (fun (k : Nat) => (L.getD k []).length) m (t.take k) : Nat) : Int) ∧ iv = .int .i64 ((k : Int) + 1) ∧ Below w.heap.size w wr) (fun _ iv _ => n + 1 - (intOf iv).toNat)
  case atStart => exact ⟨0, by omega, rfl, rfl, Below.refl _ _⟩
  case round =>
    obtain ⟨k, hk, rfl, rfl, hB⟩ := hrel
    have hz := hB.size
    by_cases hlt : k < n
    · have ck := cellB hB (HC.out k hlt)
      have hst := minN_step (fun (k : Nat) => (L.getD k []).length) m t k (by have := HN.out; omega)
      have hcm := HLT.out _ (List.mem_of_mem_take (l := m :: t) (i := k + 1) (by rw [List.take_succ_cons]; exact minN_mem (fun (k : Nat) => (L.getD k []).length) (t.take k) m))
      have hcx := HLT.out (t.getD k 0) (List.mem_cons_of_mem _ (getD_mem t k 0 (by have := HN.out; omega)))
      obtain ⟨c, hc⟩ : ∃ c, minN (fun (k : Nat) => (L.getD k []).length) m (t.take k) = c := ⟨_, rfl⟩
      obtain ⟨x, hx⟩ : ∃ x, t.getD k 0 = x := ⟨_, rfl⟩
      rw [hc] at hst hcm ⊢
      rw [hx] at hst hcx ck
      have k1 : 0 ≤ (k : Int) + 1 := by omega
      have k2 : (k : Int) + 1 < (n : Int) + 1 := by omega
      have HR2 := Lib.hid (HR.out.keep (belowSame hB hT))
      have HD2 := Lib.hid (cellB hB HCR.out)
      clear hc hx
      by_cases hl : (L.getD x []).length < (L.getD c []).length
      · rw [if_pos hl] at hst
        have HST := Lib.hid hst
        obtain ⟨z, hz9⟩ : ∃ z, cmpI (((L.getD x []).length : Nat) : Int) (((L.getD c []).length : Nat) : Int) = z := ⟨_, rfl⟩
        have hzl : z < 0 := by rw [← hz9]; exact (cmpI_lt _ _).2 hl
        have HZ := Lib.hid hz9
        clear hst hz9 hl
        go_wp2_with (go_at_call 73; (refine (lenFn x c gr ao capo L vs B T z _ HR2.out hcx hcm HD2.out HZ.out).mono ?_); rintro e w1 ⟨rfl, hb1⟩; have hB1 := hB.trans (hb1.mono hz); have ck1 := cellB hb1 ck)
        go_roundw
        case rel => exact ⟨k + 1, by omega, by rw [HST.out], by go_num, hB1⟩
        case measure => simp [intOf]; omega
      · rw [if_neg hl] at hst
        have HST := Lib.hid hst
        obtain ⟨z, hz9⟩ : ∃ z, cmpI (((L.getD x []).length : Nat) : Int) (((L.getD c []).length : Nat) : Int) = z := ⟨_, rfl⟩
        have hzl : ¬ z < 0 := by rw [← hz9]; exact fun h => hl ((cmpI_lt _ _).1 h)
        have HZ := Lib.hid hz9
        clear hst hz9 hl
        go_wp2_with (go_at_call 73; (refine (lenFn x c gr ao capo L vs B T z _ HR2.out hcx hcm HD2.out HZ.out).mono ?_); rintro e w1 ⟨rfl, hb1⟩; have hB1 := hB.trans (hb1.mono hz))
        go_roundw
        case rel => exact ⟨k + 1, by omega, by rw [HST.out], by go_num, hB1⟩
        case measure => simp [intOf]; omega
    · obtain rfl : k = n := by omega
      rw [List.take_of_length_le (by have := HN.out; omega)]
      have hz0 : ¬ (k : Int) + 1 < (k : Int) + 1 := by omega
      go_wp2
      go_ret
      exact ⟨rfl, hB⟩

/-- The chord along the arc i. -/
def arcC (n i : Nat) : Int × Int := (min (i : Int) (((i : Int) + 1) % (n : Int)), max (i : Int) (((i : Int) + 1) % (n : Int)))

theorem arcC_arc {n i : Nat} (hn : 3 ≤ n) (hi : i < n) : IsArc n (arcC n i) := by
  unfold IsArc arcC
  simp only
  by_cases e : i + 1 = n
  · have e2 : ((i : Int) + 1) % (n : Int) = 0 := by rw [show (i : Int) + 1 = (n : Int) by omega]; exact Int.emod_self
    rw [e2]
    omega
  · have e2 : ((i : Int) + 1) % (n : Int) = (i : Int) + 1 := Int.emod_eq_of_lt (by omega) (by omega)
    rw [e2]
    omega

theorem sel_cast (c : Nat → Bool) (n : Nat) (S : List Nat) (h : (List.range n).filter c = S) : selT c n = S.map fun (x : Nat) => (x : Int) := by
  unfold selT
  rw [h]

set_option maxHeartbeats 2000000 in
theorem regionAt_any (n : Nat) (a0 : Option Addr) (cap : Nat) (xs : List (Int × Int)) (B T : Nat) (w : World) (h : PairsIn 47 w B T (.slice a0 xs.length cap) xs) (hT : T ≤ w.heap.size) (i : Nat) (hi : i < n) (hg : goodC n xs) (hpl : allP xs xs.length = []) :
    Calls Try.prog 46 #[.agg #[.int .i64 n, .slice a0 xs.length cap], .int .i64 (i : Int)] w fun e w' => e = .returned (.int .i64 ((arcR xs (regL n xs) (arcC n i) : Nat) : Int)) ∧ Below w.heap.size w w' := by
  have hn : 3 ≤ n ∧ n ≤ 60 := by have := hg.1; omega
  have hsm := (regL_small hg hpl).2
  have HRW := Lib.hid (regL_rows hg hpl)
  obtain ⟨m, t, hS, hmin⟩ := arc_min hg hpl (arcC_arc hn.1 hi)
  have hHR := Lib.hid (fun W hW1 hW2 => regions_gives n a0 cap xs B T W hW1 hW2 hg hpl)
  obtain ⟨L, hL⟩ : ∃ L, regL n xs = L := ⟨_, rfl⟩
  rw [hL] at hsm HRW hS hmin hHR ⊢
  rw [← hmin]
  have hsel := sel_cast _ _ _ hS
  have hltS : ∀ x ∈ m :: t, x < L.length := fun x hx => by
    rw [← hS] at hx
    have := (List.mem_filter.1 hx).1
    simpa using this
  have hlS : t.length ≤ 1000 := by
    have h1 : (m :: t).length ≤ L.length := by rw [← hS]; exact Nat.le_trans (List.length_filter_le _ _) (by simp)
    simp at h1
    omega
  have HSEL := Lib.hid hsel
  have HLTS := Lib.hid hltS
  have hi0 : (0 : Int) ≤ (i : Int) := by omega
  have hi1 : (i : Int) ≤ 59 := by omega
  have n3 : 3 ≤ (n : Int) := by omega
  have n7 : ¬ n = 0 := by omega
  have n8 : ¬ (n : Int) = 0 := by omega
  have n6 : (n : Int) ≤ 60 := by omega
  have hi2 : (0 : Int) ≤ (i : Int) + 1 := by omega
  have hw : IntKind.i64.wrap ((i : Int) + 1) = (i : Int) + 1 := by rw [IntKind.wrap_i64]; omega
  have hr0 : 0 ≤ ((i : Int) + 1) % (n : Int) := Int.emod_nonneg _ (by omega)
  have hr1 : ((i : Int) + 1) % (n : Int) < (n : Int) := Int.emod_lt_of_pos _ (by omega)
  have htm : Int.tmod ((i : Int) + 1) (n : Int) = ((i : Int) + 1) % (n : Int) := Int.tmod_eq_emod_of_nonneg hi2
  have hw2 : IntKind.i64.wrap (((i : Int) + 1) % (n : Int)) = ((i : Int) + 1) % (n : Int) := by rw [IntKind.wrap_i64]; omega
  clear hS hmin hL hsel hltS
  go_enter Try.func46, Try.ntmps46
  go_wp2_with (first | (go_at_call 37; (refine (hHR.out _ (h.keep (belowSame (by go_grown) hT)) (Nat.le_trans hT (by first | (simp; done) | (simp; omega)))).mono ?_); rintro e w1 ⟨v, rfl, hI, hb1⟩; (have hB1 : Below w.heap.size w w1 := Below.trans (by go_grown) (hb1.mono (by first | omega | (simp; done) | (simp; omega)))); have hz1 := hB1.size; (have hzz : w.heap.size < w1.heap.size := by have := hb1.size; simp at this; omega); (have c0 : w1.cell? ⟨w.heap.size, 0, none⟩ = some (.int .i64 n) := cellB hb1 (by go_simp)); obtain ⟨vs, hR⟩ := hI; obtain ⟨ar, cr, gr, rfl, _⟩ := hR.view; have HR := Lib.hid (hR.lower (B' := w.heap.size) (by simp)); clear hR))
  have b0 : (w1.alloc (.cells #[.slice ar L.length cr] 24)).cell? ⟨w1.heap.size, 0, none⟩ = some (.slice ar L.length cr) := by go_simp
  have b1 : (w1.alloc (.cells #[.slice ar L.length cr] 24)).cell? ⟨w.heap.size, 0, none⟩ = some (.int .i64 n) := cellB (by go_grown) c0
  go_region_held3 (fun w' => w'.cell? ⟨w1.heap.size, 0, none⟩ = some (.slice ar L.length cr) ∧ w'.cell? ⟨w.heap.size, 0, none⟩ = some (.int .i64 n)) (go_keep)
    (first
      | (go_at_call 71; go_loud ((with_reducible refine (chordBt_any _ _ _).mono ?_); rintro e w2 ⟨rfl, hb2⟩); have x0 := cellB hb2 b0; have x1 := cellB hb2 b1; (have hw2 : Below w1.heap.size w1 w2 := Below.trans (by go_grown) (hb2.mono (by simp))); have HR2 := Lib.hid (HR.out.keep (belowSame hw2 (Nat.le_refl _))))
      | (go_at_call 70; (refine (withBoth_any ar cr L (min (i : Int) (((i : Int) + 1) % (n : Int))) (max (i : Int) (((i : Int) + 1) % (n : Int))) w.heap.size w1.heap.size _ ⟨vs, HR2.out⟩ (by have := hw2.size; omega) HRW.out hsm).mono ?_); rintro e w3 ⟨v3, rfl, hI3, hb3⟩; have y0 := cellB hb3 x0; have y1 := cellB hb3 x1; (have hw3 : Below w1.heap.size w1 w3 := hw2.trans (hb3.mono hw2.size)); have HR3 := Lib.hid (HR.out.keep (belowSame hw3 (Nat.le_refl _))); (have HI3 := Lib.hid (show Ints w3 w2.heap.size 3 v3 ((m :: t).map fun (x : Nat) => (x : Int)) by rw [← HSEL.out]; exact hI3))))
  go_wp2_with (go_at_call 72; (refine (minFn_any L ar cr w1.heap.size vs w.heap.size w1.heap.size w2.heap.size m t _ _ HI3.out HLTS.out hlS HR3.out (by have := hw3.size; first | omega | (simp; omega)) y0).mono ?_); rintro e w4 ⟨rfl, hb4⟩)
  go_ret
  exact ⟨rfl, hB1.trans ((hw3.trans (hb4.mono (by have := hw3.size; first | omega | (simp; omega)))).mono hz1)⟩
end Go.Proofs.Ytmfbbbnenngehab
