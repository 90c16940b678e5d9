/- Cycles of tables: by the model; the law. -/
import Derived.Test.YtincoaebdmikbabTI
namespace Go.Proofs.Ytincoaebdmikbab
open Go.RowKit
set_option linter.unusedVariables false

/-- What the model holds of a point behind i points of its path. -/
def partT (p f q l i : Nat) : Bool := l == 0 && (List.range i).all fun k => decide (q ≤ itrT p f q k)

theorem partT_succ (p f q l i : Nat) : partT p f q l (i + 1) = (partT p f q l i && decide (q ≤ itrT p f q i)) := by
  simp [partT, List.range_succ, List.all_append, Bool.and_assoc]

set_option maxHeartbeats 4000000 in
theorem sCycles_yes (p f : Nat) (w : World) (h : 3 ≤ p ∧ p ≤ 60) (hf : f < p) :
    Calls Try.prog 11 #[.int .i64 p, .int .i64 f] w (Gives (RowsIn 40 3) w (cycsT p f p) true) := by
  have g : (3 ≤ (p : Int) ∧ (p : Int) ≤ 60) ∧ (0 ≤ (f : Int) ∧ (f : Int) < p) := by omega
  go_enter Try.func11, Try.ntmps11
  go_wp2_with (first | (go_at_call 29; (with_reducible refine (taGood_yes _ _ _ g).mono ?_); rintro e w1 ⟨rfl, rfl⟩))
  go_loopw [6, 7] (fun u v wr => ∃ k : Nat, k ≤ p ∧ v = .int .i64 k ∧ RowsIn 40 3 wr w.heap.size wr.heap.size u (cycsT p f k) ∧ Below w.heap.size w wr) (fun _ v _ => p - (intOf v).toNat)
  case atStart => exact ⟨0, by omega, rfl, RowsIn.nil _ _ _ _ _, Below.refl _ _⟩
  case round =>
    obtain ⟨k, hk, rfl, hR, hB⟩ := hrel
    have HRW := Lib.hid hR
    have hz := hB.size
    clear hR
    by_cases hlt : k < p
    · obtain ⟨l, hl⟩ : ∃ l, l = leadL p f k := ⟨_, rfl⟩
      obtain ⟨n, hn⟩ : ∃ n, n = leadN p f k := ⟨_, rfl⟩
      have hN := leadN_is p f k h hlt
      have hL := leadL_is p f k h hlt
      obtain ⟨hbd1, hbd2⟩ := lead_bd p f k h hlt
      rw [← hn] at hN hL hbd1 hbd2
      rw [← hl] at hL hbd1
      have HN := Lib.hid hN
      have HL := Lib.hid hL
      have HNN := Lib.hid hn
      have hlen := cycsT_length p f k
      obtain ⟨b0, hb0⟩ : ∃ b, partT p f k l 0 = b := ⟨_, rfl⟩
      have e0 : ((l : Int) == 0) = b0 := by
        rw [← hb0, partT, Bool.eq_iff_iff]
        simp
      have HB0 := Lib.hid hb0
      have HCY := Lib.hid (show cycT p f k = partT p f k l n by unfold cycT partT; rw [← hl, ← hn])
      obtain ⟨vs, hR⟩ := HRW.out
      clear hN hL hl hn hb0
      go_wp2_with (first
        | (go_at_call 30; (refine (taLead_any p f k n l _ h hf hlt HN.out HL.out).mono ?_); rintro e w3 ⟨u, rfl, hI, hb3⟩; have hII := hI.inn; obtain ⟨a5, c5, g5, rfl, ha5, _, _, _, hc5, _⟩ := hI.view; rw [pathT_length] at *; obtain rfl := ha5 (by omega); have hn3 := hb3.size; have hB3 := hB.trans (hb3.mono hz); have HC5 := Lib.hid hc5; have HR3 := Lib.hid (hR.keep (belowSame hb3 (Nat.le_refl _))); have HII := Lib.hid hII; have hl3 := HR3.out.len; clear hI hII hb3 hc5 ha5 hR hB))
      go_loop [10, 33] (fun a b => ∃ i : Nat, i ≤ n ∧ b = .int .i64 i ∧ a = .bool (partT p f k l i)) (fun _ b => n - (intOf b).toNat)
      case atStart => exact ⟨0, by omega, rfl, by rw [HB0.out]⟩
      case round =>
        obtain ⟨i, hi, rfl, rfl⟩ := hrel
        obtain ⟨b, hb⟩ : ∃ b, partT p f k l i = b := ⟨_, rfl⟩
        rw [hb]
        by_cases hin : i < n
        · obtain ⟨y, hy⟩ : ∃ y, itrT p f k i = y := ⟨_, rfl⟩
          have cc := HC5.out i hin
          rw [path_get p f k n i hin, hy] at cc
          have HP := Lib.hid (partT_succ p f k l i)
          rw [hb, hy] at HP
          clear hb hy
          cases b with
          | true =>
            by_cases hq : k ≤ y
            · have e1 : decide ((k : Int) ≤ (y : Int)) = true := decide_eq_true (by omega)
              have HQ := Lib.hid hq
              clear hq
              go_wp2
              go_round
              case rel => exact ⟨i + 1, by omega, by go_num, by rw [HP.out, decide_eq_true HQ.out]; rfl⟩
              case measure => simp [intOf]; omega
            · have e1 : decide ((k : Int) ≤ (y : Int)) = false := decide_eq_false (by omega)
              have HQ := Lib.hid hq
              clear hq
              go_wp2
              go_round
              case rel => exact ⟨i + 1, by omega, by go_num, by rw [HP.out, decide_eq_false HQ.out]; rfl⟩
              case measure => simp [intOf]; omega
          | false =>
            go_wp2
            go_round
            case rel => exact ⟨i + 1, by omega, by go_num, by rw [HP.out]; rfl⟩
            case measure => simp [intOf]; omega
        · obtain rfl : i = n := by omega
          have hcy := HCY.out
          rw [hb] at hcy
          clear hb
          cases b with
          | true =>
            have HS := Lib.hid (cycsT_yes p f k hcy)
            clear hcy
            go_wp2_with (first
              | (at_builtin; refine wpList_append_val rfl _ _ 25 rfl w.heap.size 40 (.slice none 0 0) 24 Try.underlying25 info_ints (by decide) (by decide) _ vs rfl HR3.out.outer _ rfl rfl (by omega) (by omega) ?_; intro v' w5 ho hg; have hn5 := hg.size; have hov := HR3.out.outer.lt; have hB5 := hB3.trans (Only.below (Only.of_grown (B := w.heap.size) (T := w3.heap.size) hg (fun k hk => ⟨(hov k hk).1, (hov k hk).2⟩)) (C := w.heap.size) (by omega) (by omega)); have HN5 := Lib.hid (HR3.out.more (by decide) HII.out hz hn3 (by omega) ho hg); clear ho hg hov hB3))
            go_roundw
            case rel => exact ⟨k + 1, by omega, by go_num, by rw [← HS.out, ← HNN.out]; exact ⟨_, HN5.out⟩, hB5⟩
            case measure => simp [intOf]; omega
          | false =>
            have HS := Lib.hid (cycsT_no p f k hcy)
            clear hcy
            go_wp2
            go_roundw
            case rel => exact ⟨k + 1, by omega, by go_num, by rw [← HS.out]; exact ⟨vs, HR3.out.wider hn3⟩, hB3⟩
            case measure => simp [intOf]; omega
    · obtain rfl : k = p := by omega
      go_wp2
      go_ret2
      exact giveRows true HRW.out rfl hB

set_option maxHeartbeats 400000 in
theorem core_CyclesOfTable (p f : Int) (x : List (List Int))  (b : Bool) (w : World) (hx : cellsOf x ≤ 1000000) (hr : x.length ≤ 1000000)
    (hs : ∀ W, Calls Try.prog 11 #[.int .i64 p, .int .i64 f] W (Gives (RowsIn 40 3) W x b)) (hi : ∀ W, Calls Try.prog 12 #[.int .i64 p, .int .i64 f] W (Gives (RowsIn 40 3) W x b)) :
    Calls Try.prog 4 #[.int .i64 p, .int .i64 f] w fun e w' => e = .returned (.bool true) ∧ Below w.heap.size w w' := by
  have HS := Lib.hid hs
  have HI := Lib.hid hi
  clear hs hi
  go_enter Try.func4, Try.ntmps4
  go_wp2_with fail
  refine (HS.out _).mono ?_
  rintro e w1 ⟨vw, rfl, kw_1, hb1⟩
  have n1 : w.heap.size ≤ w1.heap.size := by have := hb1.size; (try simp at this); omega
  have B1 : Below w.heap.size w w1 := Below.trans (by go_grown) (hb1.mono (by first | (simp; done) | (simp; omega)))
  go_wp2_with fail
  refine (HI.out _).mono ?_
  rintro e w2 ⟨vg, rfl, kg_2, hb2⟩
  have n2 := hb2.size
  have B2 := B1.trans (hb2.mono (by omega))
  have kw_2 := kw_1.keep (belowSame hb2 (by omega))
  go_wp2_with fail
  refine (eqIntSS_in _ _ x _ _ _ _ _ _ _ kg_2 kw_2).mono ?_
  rintro e w3 ⟨rfl, hb3⟩
  have n3 := hb3.size
  have B3 := B2.trans (hb3.mono (by omega))
  have kw_3 := kw_2.keep (belowSame hb3 (by omega))
  have kg_3 := kg_2.keep (belowSame hb3 (by omega))
  go_wp2_with fail
  refine (markIntSS_in _ x 1 _ _ _ _ _ kg_3 (by decide) (by omega) (by omega) (by omega) hr).mono ?_
  rintro e w4 ⟨rfl, mg_4, o4⟩
  have n4 := o4.size
  have B4 := B3.trans (o4.below (C := w.heap.size) (by omega) (by omega))
  have kw_4 := kw_3.keep (o4.same_in (by omega) (by omega))
  have kg_4 := mg_4
  go_wp2_with fail
  refine (heldIntSS_in _ x 1 _ _ _ _ _ kg_4 (by omega) (by omega) (by omega) hr).mono ?_
  rintro e w5 ⟨rfl, hb5⟩
  have n5 := hb5.size
  have B5 := B4.trans (hb5.mono (by omega))
  have kw_5 := kw_4.keep (belowSame hb5 (by omega))
  have kg_5 := kg_4.keep (belowSame hb5 (by omega))
  go_wp2_with fail
  refine (HI.out _).mono ?_
  rintro e w6 ⟨vh, rfl, kh_6, hb6⟩
  have n6 := hb6.size
  have B6 := B5.trans (hb6.mono (by omega))
  have kw_6 := kw_5.keep (belowSame hb6 (by omega))
  have kg_6 := kg_5.keep (belowSame hb6 (by omega))
  go_wp2_with fail
  refine (eqIntSS_in _ _ x _ _ _ _ _ _ _ kh_6 kw_6).mono ?_
  rintro e w7 ⟨rfl, hb7⟩
  have n7 := hb7.size
  have B7 := B6.trans (hb7.mono (by omega))
  have kw_7 := kw_6.keep (belowSame hb7 (by omega))
  have kg_7 := kg_6.keep (belowSame hb7 (by omega))
  have kh_7 := kh_6.keep (belowSame hb7 (by omega))
  go_wp2_with fail
  refine (heldIntSS_in _ x 1 _ _ _ _ _ kg_7 (by omega) (by omega) (by omega) hr).mono ?_
  rintro e w8 ⟨rfl, hb8⟩
  have n8 := hb8.size
  have B8 := B7.trans (hb8.mono (by omega))
  have kw_8 := kw_7.keep (belowSame hb8 (by omega))
  have kg_8 := kg_7.keep (belowSame hb8 (by omega))
  have kh_8 := kh_7.keep (belowSame hb8 (by omega))
  go_wp2_with fail
  go_ret
  exact ⟨rfl, B8⟩

theorem walk_CyclesOfTable (p f : Int) (w : World) (_ : (Lit.int .i64 p).wf = true) (_ : (Lit.int .i64 f).wf = true) :
    Calls Try.prog 4 #[.int .i64 p, .int .i64 f] w fun e w' => e = .returned (.bool true) ∧ Below w.heap.size w w' := by
  by_cases h : (3 ≤ p ∧ p ≤ 60) ∧ (0 ≤ f ∧ f < p)
  · obtain ⟨p, rfl⟩ := Int.eq_ofNat_of_zero_le (show 0 ≤ p by omega)
    obtain ⟨f, rfl⟩ := Int.eq_ofNat_of_zero_le (show 0 ≤ f by omega)
    have h1 : 3 ≤ p ∧ p ≤ 60 := by omega
    have h2 : f < p := by omega
    exact core_CyclesOfTable _ _ (cycsT p f p) true w (by have := cells_cyc p f p h1 (Nat.le_refl _); omega) (by have := cycsT_length p f p; omega) (fun W => sCycles_yes p f W h1 h2) (fun W => iCycles_yes p f W h1 h2)
  · exact core_CyclesOfTable _ _ [] false w (by simp [cellsOf]) (by simp) (fun W => sCycles_no _ _ W h) (fun W => iCycles_no _ _ W h)

end Go.Proofs.Ytincoaebdmikbab
