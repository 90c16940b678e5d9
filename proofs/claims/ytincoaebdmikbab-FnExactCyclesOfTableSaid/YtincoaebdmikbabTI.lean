/- Cycles of tables: by the program and by the model. -/
import Derived.Test.YtincoaebdmikbabTH
import Derived.Test.YtincoaebdmikbabTM
import Derived.Test.YtincoaebdmikbabVA
namespace Go.Proofs.Ytincoaebdmikbab
open Go.RowKit
set_option linter.unusedVariables false

/-- Does the cycle of a point begin with it, and have it for its least point? -/
def cycT (p f q : Nat) : Bool := leadL p f q == 0 && (List.range (leadN p f q)).all fun k => decide (q ≤ itrT p f q k)

/-- The cycles of the points less than k. -/
def cycsT (p f k : Nat) : List (List Int) := ((List.range k).filter (cycT p f)).map fun q => pathT p f q (leadN p f q)

theorem cycsT_yes (p f k : Nat) (h : cycT p f k = true) : cycsT p f k ++ [pathT p f k (leadN p f k)] = cycsT p f (k + 1) := by
  simp [cycsT, List.range_succ, List.filter_append, h]

theorem cycsT_no (p f k : Nat) (h : cycT p f k = false) : cycsT p f k = cycsT p f (k + 1) := by
  simp [cycsT, List.range_succ, List.filter_append, h]

theorem cycsT_length (p f k : Nat) : (cycsT p f k).length ≤ k := by
  have := List.length_filter_le (cycT p f) (List.range k)
  rw [List.length_range] at this
  simpa [cycsT] using this

/-- A point from which no line leads to its cycle is in it. -/
theorem lead_zero {p f q n : Nat} (hn : LeadIs p f q n) (hl : comesT p f q n (itrT p f q n) = 0 + 1) : itrT p f q n = q ∧ ∀ i, 1 ≤ i → i < n → itrT p f q i ≠ q := by
  have h1 := comesT_some p f q n (itrT p f q n) (by rw [hl]; omega)
  rw [hl] at h1
  refine ⟨h1.2.symm, fun i hi hin e => ?_⟩
  exact comesT_none p f q i _ (hn.2 i hin) 0 (by omega) e.symm

theorem path_get (p f q n i : Nat) (h : i < n) : (pathT p f q n).getD i 0 = ((itrT p f q i : Nat) : Int) := by
  simp [pathT, List.getD, List.getElem?_map, List.getElem?_range h]

theorem cells_cyc (p f k : Nat) (h : 3 ≤ p ∧ p ≤ 60) (hk : k ≤ p) : cellsOf (cycsT p f k) ≤ k * 60 := by
  induction k with
  | zero => simp [cycsT, cellsOf]
  | succ k ih =>
    have i1 := ih (by omega)
    cases hc : cycT p f k with
    | true =>
      rw [← cycsT_yes p f k hc]
      unfold cellsOf at *
      rw [List.map_append, List.sum_append]
      have := (lead_bd p f k h (by omega)).2
      simp [pathT_length]
      omega
    | false =>
      rw [← cycsT_no p f k hc]
      omega

set_option maxHeartbeats 4000000 in
set_option maxRecDepth 100000 in
theorem iCycles_yes (p f : Nat) (w : World) (h : 3 ≤ p ∧ p ≤ 60) (hf : f < p) :
    Calls Try.prog 12 #[.int .i64 p, .int .i64 f] w (Gives (RowsIn 40 3) w (cycsT p f p) true) := by
  have g : (3 ≤ (p : Int) ∧ (p : Int) ≤ 60) ∧ (0 ≤ (f : Int) ∧ (f : Int) < p) := by omega
  go_enter Try.func12, Try.ntmps12
  go_wp2_with (first
    | (go_at_call 32; (with_reducible refine (isTable_yes _ _ _ g).mono ?_); rintro e w1 ⟨rfl, rfl⟩)
    | (go_at_call 33; (with_reducible refine (rowOf_any _ _ _ h hf).mono ?_); rintro e w1 ⟨rfl, hb⟩; have HR := Lib.hid (RowAt.new w1 p f); have HB := Lib.hid (hb.alloc hb.size (.cells (rowV p f p) 45)); have n1 := hb.size; clear hb)
    | (with_reducible refine wpList_store_new rfl 45 (.tmp 6) (.tmp 18) rfl (rowV p f p) rfl rfl _ (info_rowV p f h.2) (by simp [rowV_size p f p h.2]) (rowV_one p f p) ?_))
  go_loopw [7, 20] (fun u v wr => ∃ k : Nat, k ≤ p ∧ v = .int .i64 k ∧ RowsIn 40 3 wr (w1.heap.size + 1) wr.heap.size u (cycsT p f k) ∧ Below w.heap.size w wr ∧ w1.heap.size + 1 ≤ wr.heap.size ∧ Hid (RowAt wr w1.heap.size p f)) (fun _ v _ => p - (intOf v).toNat)
  case atStart => exact ⟨0, by omega, rfl, RowsIn.nil _ _ _ _ _, HB.out, by simp, HR⟩
  case round =>
    obtain ⟨k, hk, rfl, hR, hB, hz1, HRK⟩ := hrel
    have HRH := Lib.hid (show wr.heap[w1.heap.size]? = some (.cells (rowV p f p) 45 (0, 0)) from HRK.out)
    have HRW := Lib.hid hR
    have hz := hB.size
    clear hR
    by_cases hlt : k < p
    · obtain ⟨l, hl⟩ : ∃ l, l = leadL p f k := ⟨_, rfl⟩
      obtain ⟨n, hn⟩ : ∃ n, n = leadN p f k := ⟨_, rfl⟩
      have hN := leadN_is p f k h hlt
      have hL := leadL_is p f k h hlt
      obtain ⟨hbd1, hbd2⟩ := lead_bd p f k h hlt
      rw [← hn] at hN hL hbd1 hbd2
      rw [← hl] at hL hbd1
      have HN := Lib.hid hN
      have HL := Lib.hid hL
      have hlen := cycsT_length p f k
      by_cases hl0 : l = 0
      · subst hl0
        obtain ⟨hback, hdist⟩ := lead_zero hN hL
        have HQ := Lib.hid hback
        have HD := Lib.hid hdist
        obtain ⟨m, hm⟩ : ∃ m : Nat, (∀ i, i < n → m ≤ itrT p f k i) ∧ ∃ i, i < n ∧ itrT p f k i = m := by
          have := least_of (P := fun x => ∃ i, i < n ∧ itrT p f k i = x) ⟨_, 0, by omega, rfl⟩
          obtain ⟨m, h1, h2⟩ := this
          exact ⟨m, fun i hi => by
            rcases Nat.lt_or_ge (itrT p f k i) m with g | g
            · exact absurd ⟨i, hi, rfl⟩ (h2 _ g)
            · exact g, h1⟩
        have HM := Lib.hid hm
        have hcy : cycT p f k = (m == k) := by
          unfold cycT
          rw [← hl, ← hn, Bool.eq_iff_iff]
          simp only [BEq.rfl, Bool.true_and, List.all_eq_true, List.mem_range, decide_eq_true_eq, beq_iff_eq]
          constructor
          · intro g
            obtain ⟨i, hi, e⟩ := hm.2
            have a := g i hi
            have b := hm.1 0 (by omega)
            rw [show itrT p f k 0 = k from rfl] at b
            omega
          · rintro rfl i hi
            exact hm.1 i hi
        have HCY := Lib.hid hcy
        clear hN hL hl hback hdist hm hcy
        obtain ⟨vs, hR⟩ := HRW.out
        by_cases hmk : m = k
        · obtain rfl : k = m := hmk.symm
          have HS := Lib.hid (cycsT_yes p f k (by rw [HCY.out]; simp))
          have HNN := Lib.hid hn
          have e1 : ((k : Int) == (k : Int)) = true := by simp
          clear hn
          go_wp2_with (first
            | (with_reducible refine wpList_load_row rfl 45 (.tmp 6) rfl w1.heap.size rfl 45 (rowV p f p) (0, 0) (.array 60 3) HRH.out Try.underlying45 rfl (info_rowV p f h.2) ?_)
            | (with_reducible refine wpList_load_row rfl 45 (.tmp 6) rfl w1.heap.size rfl 45 (rowV p f p) (0, 0) (.array 60 3) HRH2.out Try.underlying45 rfl (info_rowV p f h.2) ?_)
            | (go_at_call 34; (refine (leadOf_any p f k n 0 _ h hf hlt HN.out HL.out).mono ?_); rintro e w2 ⟨rfl, hb2⟩; have HRK2 := Lib.hid (HRK.out.keep hb2); have HRH2 := Lib.hid (show w2.heap[w1.heap.size]? = some (.cells (rowV p f p) 45 (0, 0)) from HRK2.out); have hn2 := hb2.size; have hB2 := hB.trans (hb2.mono hz); have HR2 := Lib.hid ((hR.keep (belowSame hb2 (Nat.le_refl _))).wider hn2); clear hb2)
            | (go_at_call 35; (refine (cycleFrom_any p f k n _ h hf hlt (by omega) hbd2 HQ.out HD.out).mono ?_); rintro e w3 ⟨u, rfl, hI, hb3⟩; have hII := hI.inn; obtain ⟨a5, c5, g5, rfl, ha5, _, _, _, hc5, _⟩ := hI.view; rw [pathT_length] at *; obtain rfl := ha5 (by omega); have hn3 := hb3.size; have hB3 := hB2.trans (hb3.mono (Nat.le_trans hz hn2)); have HC5 := Lib.hid hc5; have HR3 := Lib.hid (HR2.out.keep (belowSame hb3 (Nat.le_refl _))); have HRK3 := Lib.hid (HRK2.out.keep hb3); have HII := Lib.hid hII; clear hI hII hb3 hc5 ha5 hB2)
            | (go_at_call 36; (refine (min_any g5 n c5 (pathT p f k n) (k : Int) _ (pathT_length p f k n) (by omega) (by omega) HC5.out (fun i hi => by rw [path_get p f k n i hi]; have := HM.out.1 i hi; omega) (by obtain ⟨i, hi, e⟩ := HM.out.2; exact ⟨i, hi, by rw [path_get p f k n i hi, e]⟩)).mono ?_); rintro e w4 ⟨rfl, hb4⟩; have hn4 := hb4.size; have hB4 := hB3.trans (hb4.mono (Nat.le_trans hz (Nat.le_trans hn2 hn3))); have HR4 := Lib.hid (HR3.out.keep (belowSame hb4 hn3)); have HI4 := Lib.hid (HII.out.keep (belowSame hb4 (Nat.le_refl _))); have HRK4 := Lib.hid (HRK3.out.keep hb4); have hl4 := HR4.out.len; clear hb4 hB3)
            | (at_builtin; refine wpList_append_val rfl _ _ 25 rfl (w1.heap.size + 1) 40 (.slice none 0 0) 24 Try.underlying25 info_ints (by decide) (by decide) _ vs rfl HR4.out.outer _ rfl rfl (by omega) (by omega) ?_; intro v' w5 ho hg; have hn5 := hg.size; have hov := HR4.out.outer.lt; have hB5 := hB4.trans (Only.below (Only.of_grown (B := w1.heap.size + 1) (T := w4.heap.size) hg (fun k hk => ⟨(hov k hk).1, (hov k hk).2⟩)) (C := w.heap.size) (by omega) (by omega)); have HRK5 : Hid (RowAt w5 w1.heap.size p f) := Lib.hid ((hg.block w1.heap.size HRK4.out.lt (fun e => by have := (hov _ e.symm).1; omega)).trans HRK4.out); have HN5 := Lib.hid (HR4.out.more (by decide) HI4.out (by omega) hn3 (by omega) ho hg); clear ho hg hov hB4))
          go_roundw
          case rel => exact ⟨k + 1, by omega, by go_num, by rw [← HS.out, ← HNN.out]; exact ⟨_, HN5.out⟩, hB5, by omega, HRK5⟩
          case measure => simp [intOf]; omega
        · have HS := Lib.hid (cycsT_no p f k (by rw [HCY.out]; exact beq_eq_false_iff_ne.2 hmk))
          have e1 : ((m : Int) == (k : Int)) = false := beq_eq_false_iff_ne.2 (by omega)
          clear hn hmk
          go_wp2_with (first
            | (with_reducible refine wpList_load_row rfl 45 (.tmp 6) rfl w1.heap.size rfl 45 (rowV p f p) (0, 0) (.array 60 3) HRH.out Try.underlying45 rfl (info_rowV p f h.2) ?_)
            | (with_reducible refine wpList_load_row rfl 45 (.tmp 6) rfl w1.heap.size rfl 45 (rowV p f p) (0, 0) (.array 60 3) HRH2.out Try.underlying45 rfl (info_rowV p f h.2) ?_)
            | (go_at_call 34; (refine (leadOf_any p f k n 0 _ h hf hlt HN.out HL.out).mono ?_); rintro e w2 ⟨rfl, hb2⟩; have HRK2 := Lib.hid (HRK.out.keep hb2); have HRH2 := Lib.hid (show w2.heap[w1.heap.size]? = some (.cells (rowV p f p) 45 (0, 0)) from HRK2.out); have hn2 := hb2.size; have hB2 := hB.trans (hb2.mono hz); have HR2 := Lib.hid ((hR.keep (belowSame hb2 (Nat.le_refl _))).wider hn2); clear hb2)
            | (go_at_call 35; (refine (cycleFrom_any p f k n _ h hf hlt (by omega) hbd2 HQ.out HD.out).mono ?_); rintro e w3 ⟨u, rfl, hI, hb3⟩; have hII := hI.inn; obtain ⟨a5, c5, g5, rfl, ha5, _, _, _, hc5, _⟩ := hI.view; rw [pathT_length] at *; obtain rfl := ha5 (by omega); have hn3 := hb3.size; have hB3 := hB2.trans (hb3.mono (Nat.le_trans hz hn2)); have HC5 := Lib.hid hc5; have HR3 := Lib.hid (HR2.out.keep (belowSame hb3 (Nat.le_refl _))); have HRK3 := Lib.hid (HRK2.out.keep hb3); have HII := Lib.hid hII; clear hI hII hb3 hc5 ha5 hB2)
            | (go_at_call 36; (refine (min_any g5 n c5 (pathT p f k n) (m : Int) _ (pathT_length p f k n) (by omega) (by omega) HC5.out (fun i hi => by rw [path_get p f k n i hi]; have := HM.out.1 i hi; omega) (by obtain ⟨i, hi, e⟩ := HM.out.2; exact ⟨i, hi, by rw [path_get p f k n i hi, e]⟩)).mono ?_); rintro e w4 ⟨rfl, hb4⟩; have hn4 := hb4.size; have hB4 := hB3.trans (hb4.mono (Nat.le_trans hz (Nat.le_trans hn2 hn3))); have HR4 := Lib.hid (HR3.out.keep (belowSame hb4 hn3)); have HI4 := Lib.hid (HII.out.keep (belowSame hb4 (Nat.le_refl _))); have HRK4 := Lib.hid (HRK3.out.keep hb4); have hl4 := HR4.out.len; clear hb4 hB3))
          go_roundw
          case rel => exact ⟨k + 1, by omega, by go_num, by rw [← HS.out]; exact ⟨vs, HR4.out.wider (by omega)⟩, hB4, by omega, HRK4⟩
          case measure => simp [intOf]; omega
      · have hcy : cycT p f k = false := by
          unfold cycT
          rw [← hl]
          simp [hl0]
        have HS := Lib.hid (cycsT_no p f k hcy)
        have hl1 : 0 < (l : Int) := by omega
        obtain ⟨vs, hR⟩ := HRW.out
        clear hN hL hl hn hcy hl0
        go_wp2_with (first
          | (with_reducible refine wpList_load_row rfl 45 (.tmp 6) rfl w1.heap.size rfl 45 (rowV p f p) (0, 0) (.array 60 3) HRH.out Try.underlying45 rfl (info_rowV p f h.2) ?_)
          | (go_at_call 34; (refine (leadOf_any p f k n l _ h hf hlt HN.out HL.out).mono ?_); rintro e w2 ⟨rfl, hb2⟩; have HRK2 := Lib.hid (HRK.out.keep hb2); have HRH2 := Lib.hid (show w2.heap[w1.heap.size]? = some (.cells (rowV p f p) 45 (0, 0)) from HRK2.out); have hn2 := hb2.size; have hB2 := hB.trans (hb2.mono hz); have HR2 := Lib.hid ((hR.keep (belowSame hb2 (Nat.le_refl _))).wider hn2); clear hb2))
        go_roundw
        case rel => exact ⟨k + 1, by omega, by go_num, by rw [← HS.out]; exact ⟨vs, HR2.out⟩, hB2, by omega, HRK2⟩
        case measure => simp [intOf]; omega
    · obtain rfl : k = p := by omega
      go_wp2
      go_ret2
      obtain ⟨vs, hv⟩ := HRW.out
      exact giveRows true ⟨vs, hv.lower (by omega)⟩ rfl hB

set_option maxHeartbeats 400000 in
theorem iCycles_no (p f : Int) (w : World) (h : ¬ ((3 ≤ p ∧ p ≤ 60) ∧ (0 ≤ f ∧ f < p))) :
    Calls Try.prog 12 #[.int .i64 p, .int .i64 f] w (Gives (RowsIn 40 3) w [] false) := by
  go_enter Try.func12, Try.ntmps12
  go_wp2_with (first | (go_at_call 32; (with_reducible refine (isTable_no _ _ _ h).mono ?_); rintro e w1 ⟨rfl, rfl⟩))
  go_ret2
  exact giveNoRows (Below.refl _ _)

set_option maxHeartbeats 400000 in
theorem sCycles_no (p f : Int) (w : World) (h : ¬ ((3 ≤ p ∧ p ≤ 60) ∧ (0 ≤ f ∧ f < p))) :
    Calls Try.prog 11 #[.int .i64 p, .int .i64 f] w (Gives (RowsIn 40 3) w [] false) := by
  go_enter Try.func11, Try.ntmps11
  go_wp2_with (first | (go_at_call 29; (with_reducible refine (taGood_no _ _ _ h).mono ?_); rintro e w1 ⟨rfl, rfl⟩))
  go_ret2
  exact giveNoRows (Below.refl _ _)

end Go.Proofs.Ytincoaebdmikbab
