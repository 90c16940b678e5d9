/- Leads and depths of tables. -/
import Derived.Test.YtincoaebdmikbabTF
namespace Go.Proofs.Ytincoaebdmikbab
open Go.RowKit
set_option linter.unusedVariables false

/-- How many points are come to before one comes again. -/
def leadN (p f q : Nat) : Nat := ((List.range 61).find? fun n => comesT p f q n (itrT p f q n) != 0).getD 0

/-- How many lines lead to a cycle. -/
def leadL (p f q : Nat) : Nat := comesT p f q (leadN p f q) (itrT p f q (leadN p f q)) - 1

theorem leadN_is (p f q : Nat) (h : 3 ≤ p ∧ p ≤ 60) (hq : q < p) : LeadIs p f q (leadN p f q) := by
  obtain ⟨n, hn⟩ := lead_exists p f q (by omega) hq
  have hl := lead_le (by omega) hq hn
  have e : ((List.range 61).find? fun n => comesT p f q n (itrT p f q n) != 0) = some n := by
    rw [List.find?_range_eq_some]
    refine ⟨by simpa using hn.1, List.mem_range.2 (by omega), fun j hj => ?_⟩
    simp [hn.2 j hj]
  unfold leadN
  rw [e]
  exact hn

theorem leadL_is (p f q : Nat) (h : 3 ≤ p ∧ p ≤ 60) (hq : q < p) : comesT p f q (leadN p f q) (itrT p f q (leadN p f q)) = leadL p f q + 1 := by
  have := (leadN_is p f q h hq).1
  unfold leadL
  omega

theorem lead_bd (p f q : Nat) (h : 3 ≤ p ∧ p ≤ 60) (hq : q < p) : leadL p f q + 1 ≤ leadN p f q ∧ leadN p f q ≤ p :=
  ⟨by rw [← leadL_is p f q h hq]; exact comesT_le _ _ _ _ _, lead_le (by omega) hq (leadN_is p f q h hq)⟩

/-- The greatest number of lines of the first k points. -/
def depthT (p f k : Nat) : Nat := (List.range k).foldl (fun d q => max d (leadL p f q)) 0

theorem depthT_zero (p f : Nat) : depthT p f 0 = 0 := rfl

theorem depthT_succ (p f k : Nat) : depthT p f (k + 1) = max (depthT p f k) (leadL p f k) := by
  simp [depthT, List.range_succ, List.foldl_append]

theorem depthT_le (p f k : Nat) (h : 3 ≤ p ∧ p ≤ 60) (hk : k ≤ p) : depthT p f k ≤ 60 := by
  induction k with
  | zero => rw [depthT_zero]; omega
  | succ k ih =>
    rw [depthT_succ]
    have := ih (by omega)
    have := lead_bd p f k h (by omega)
    omega

set_option maxHeartbeats 400000 in
theorem l1Most_nat (d l m : Nat) (w : World) (hm : max d l = m) :
    Calls Try.prog 31 #[.int .i64 d, .int .i64 l] w fun e w' => e = .returned (.int .i64 (m : Int)) ∧ w = w' := by
  by_cases hle : d ≤ l
  · obtain rfl : m = l := by omega
    clear hm
    go_enter Try.func31, Try.ntmps31
    go_wp2
    go_ret
    exact ⟨rfl, rfl⟩
  · obtain rfl : m = d := by omega
    have hgt : (l : Int) < (m : Int) := by omega
    clear hm
    go_enter Try.func31, Try.ntmps31
    go_wp2
    go_ret
    exact ⟨rfl, rfl⟩

set_option maxHeartbeats 1000000 in
theorem sDepth_yes (p f : Nat) (w : World) (h : 3 ≤ p ∧ p ≤ 60) (hf : f < p) :
    Calls Try.prog 9 #[.int .i64 p, .int .i64 f] w fun e w' => e = .returned (.tuple #[.int .i64 (depthT p f p : Nat), .bool true]) ∧ Below w.heap.size w w' := by
  have g : (3 ≤ (p : Int) ∧ (p : Int) ≤ 60) ∧ (0 ≤ (f : Int) ∧ (f : Int) < p) := by omega
  have H0 := Lib.hid (depthT_zero p f)
  go_enter Try.func9, Try.ntmps9
  go_wp2_with (first | (go_at_call 29; (with_reducible refine (taGood_yes _ _ _ g).mono ?_); rintro e w1 ⟨rfl, rfl⟩))
  go_loopw [6, 7] (fun u v wr => ∃ k d : Nat, k ≤ p ∧ v = .int .i64 k ∧ u = .int .i64 d ∧ Hid (d = depthT p f k) ∧ Below w.heap.size w wr) (fun _ v _ => p - (intOf v).toNat)
  case atStart => exact ⟨0, 0, by omega, rfl, rfl, Lib.hid H0.out.symm, Below.refl _ _⟩
  case round =>
    obtain ⟨k, d, hk, rfl, rfl, HD, hB⟩ := hrel
    have hz := hB.size
    by_cases hlt : k < p
    · have HN := Lib.hid (leadN_is p f k h hlt)
      have HL := Lib.hid (leadL_is p f k h hlt)
      obtain ⟨l, hl⟩ : ∃ l, l = leadL p f k := ⟨_, rfl⟩
      rw [← hl] at HL
      have HM := Lib.hid (show max d l = depthT p f (k + 1) by rw [depthT_succ, ← hl, HD.out])
      clear hl
      obtain ⟨m, hm⟩ : ∃ m, max d l = m := ⟨_, rfl⟩
      rw [hm] at HM
      have HX := Lib.hid hm
      clear hm
      go_wp2_with (first
        | (go_at_call 30; (refine (taLead_any p f k _ l _ h hf hlt HN.out HL.out).mono ?_); rintro e w1 ⟨v, rfl, hI, hb⟩; have hB1 := hB.trans (hb.mono hz); clear hI)
        | (go_at_call 31; (refine (l1Most_nat d l m _ HX.out).mono ?_); rintro e w2 ⟨rfl, rfl⟩))
      go_roundw
      case rel => exact ⟨k + 1, m, by omega, by go_num, rfl, HM, hB1⟩
      case measure => simp [intOf]; omega
    · obtain rfl : k = p := by omega
      go_wp2
      go_ret2
      exact ⟨by rw [HD.out]; rfl, hB⟩

set_option maxHeartbeats 400000 in
theorem sDepth_no (p f : Int) (w : World) (h : ¬ ((3 ≤ p ∧ p ≤ 60) ∧ (0 ≤ f ∧ f < p))) :
    Calls Try.prog 9 #[.int .i64 p, .int .i64 f] w fun e w' => e = .returned (.tuple #[.int .i64 0, .bool false]) ∧ Below w.heap.size w w' := by
  go_enter Try.func9, Try.ntmps9
  go_wp2_with (first | (go_at_call 29; (with_reducible refine (taGood_no _ _ _ h).mono ?_); rintro e w1 ⟨rfl, rfl⟩))
  go_ret2
  exact ⟨rfl, Below.refl _ _⟩

set_option maxHeartbeats 400000 in
theorem iDepth_no (p f : Int) (w : World) (h : ¬ ((3 ≤ p ∧ p ≤ 60) ∧ (0 ≤ f ∧ f < p))) :
    Calls Try.prog 10 #[.int .i64 p, .int .i64 f] w fun e w' => e = .returned (.tuple #[.int .i64 0, .bool false]) ∧ Below w.heap.size w w' := by
  go_enter Try.func10, Try.ntmps10
  go_wp2_with (first | (go_at_call 32; (with_reducible refine (isTable_no _ _ _ h).mono ?_); rintro e w1 ⟨rfl, rfl⟩))
  go_ret2
  exact ⟨rfl, Below.refl _ _⟩

set_option maxHeartbeats 2000000 in
set_option maxRecDepth 100000 in
theorem iDepth_yes (p f : Nat) (w : World) (h : 3 ≤ p ∧ p ≤ 60) (hf : f < p) :
    Calls Try.prog 10 #[.int .i64 p, .int .i64 f] w fun e w' => e = .returned (.tuple #[.int .i64 (depthT p f p : Nat), .bool true]) ∧ Below w.heap.size w w' := by
  have g : (3 ≤ (p : Int) ∧ (p : Int) ≤ 60) ∧ (0 ≤ (f : Int) ∧ (f : Int) < p) := by omega
  have H0 := Lib.hid (depthT_zero p f)
  go_enter Try.func10, Try.ntmps10
  go_wp2_with (first
    | (go_at_call 32; (with_reducible refine (isTable_yes _ _ _ g).mono ?_); rintro e w1 ⟨rfl, rfl⟩)
    | (go_at_call 33; (with_reducible refine (rowOf_any _ _ _ h hf).mono ?_); rintro e w1 ⟨rfl, hb⟩; have HR := Lib.hid (RowAt.new w1 p f); have HB := Lib.hid (hb.alloc hb.size (.cells (rowV p f p) 45)); have n1 := hb.size; clear hb)
    | (with_reducible refine wpList_store_new rfl 45 (.tmp 6) (.tmp 17) rfl (rowV p f p) rfl rfl _ (info_rowV p f h.2) (by simp [rowV_size p f p h.2]) (rowV_one p f p) ?_))
  go_loopw [7, 19] (fun u v wr => ∃ k d : Nat, k ≤ p ∧ v = .int .i64 k ∧ u = .int .i64 d ∧ Hid (d = depthT p f k) ∧ Below w.heap.size w wr ∧ Hid (RowAt wr w1.heap.size p f)) (fun _ v _ => p - (intOf v).toNat)
  case atStart => exact ⟨0, 0, by omega, rfl, rfl, Lib.hid H0.out.symm, HB.out, HR⟩
  case round =>
    obtain ⟨k, d, hk, rfl, rfl, HD, hB, HRK⟩ := hrel
    have HRH := Lib.hid (show wr.heap[w1.heap.size]? = some (.cells (rowV p f p) 45 (0, 0)) from HRK.out)
    have hz := hB.size
    by_cases hlt : k < p
    · have HN := Lib.hid (leadN_is p f k h hlt)
      have HL := Lib.hid (leadL_is p f k h hlt)
      obtain ⟨l, hl⟩ : ∃ l, l = leadL p f k := ⟨_, rfl⟩
      rw [← hl] at HL
      have HM := Lib.hid (show max d l = depthT p f (k + 1) by rw [depthT_succ, ← hl, HD.out])
      clear hl
      obtain ⟨m, hm⟩ : ∃ m, max d l = m := ⟨_, rfl⟩
      rw [hm] at HM
      have HX := Lib.hid hm
      clear hm
      go_wp2_with (first
        | (with_reducible refine wpList_load_row rfl 45 (.tmp 6) rfl w1.heap.size rfl 45 (rowV p f p) (0, 0) (.array 60 3) HRH.out Try.underlying45 rfl (info_rowV p f h.2) ?_)
        | (go_at_call 34; (refine (leadOf_any p f k _ l _ h hf hlt HN.out HL.out).mono ?_); rintro e w2 ⟨rfl, hb2⟩; have hB1 := hB.trans (hb2.mono hz); have HRK2 := Lib.hid (HRK.out.keep hb2)))
      go_roundw
      case rel => exact ⟨k + 1, m, by omega, by go_num, by have := HX.out; congr 1; omega, HM, hB1, HRK2⟩
      case measure => simp [intOf]; omega
    · obtain rfl : k = p := by omega
      go_wp2
      go_ret2
      exact ⟨by rw [HD.out]; rfl, hB⟩

set_option maxHeartbeats 400000 in
theorem walk_DepthOfTable (p f : Int) (w : World) (_ : (Lit.int .i64 p).wf = true) (_ : (Lit.int .i64 f).wf = true) :
    Calls Try.prog 3 #[.int .i64 p, .int .i64 f] w fun e w' => e = .returned (.bool true) ∧ Below w.heap.size w w' := by
  by_cases h : (3 ≤ p ∧ p ≤ 60) ∧ (0 ≤ f ∧ f < p)
  · obtain ⟨p, rfl⟩ := Int.eq_ofNat_of_zero_le (show 0 ≤ p by omega)
    obtain ⟨f, rfl⟩ := Int.eq_ofNat_of_zero_le (show 0 ≤ f by omega)
    have h1 : 3 ≤ p ∧ p ≤ 60 := by omega
    have h2 : f < p := by omega
    clear h
    go_enter Try.func3, Try.ntmps3
    go_wp2_with (first | (go_at_call 9; (with_reducible refine (sDepth_yes p f _ h1 h2).mono ?_); rintro e w1 ⟨rfl, hb1⟩) | (go_at_call 10; (with_reducible refine (iDepth_yes p f _ h1 h2).mono ?_); rintro e w2 ⟨rfl, hb2⟩))
    go_ret
    exact ⟨rfl, hb1.trans (hb2.mono hb1.size)⟩
  · go_enter Try.func3, Try.ntmps3
    go_wp2_with (first | (go_at_call 9; (with_reducible refine (sDepth_no _ _ _ h).mono ?_); rintro e w1 ⟨rfl, hb1⟩) | (go_at_call 10; (with_reducible refine (iDepth_no _ _ _ h).mono ?_); rintro e w2 ⟨rfl, hb2⟩))
    go_ret
    exact ⟨rfl, hb1.trans (hb2.mono hb1.size)⟩

end Go.Proofs.Ytincoaebdmikbab
