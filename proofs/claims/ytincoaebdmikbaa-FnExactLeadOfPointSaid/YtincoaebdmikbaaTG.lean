/- Leads and depths of tables. -/
import Derived.Test.YtincoaebdmikbaaTF
namespace Go.Proofs.Ytincoaebdmikbaa
open Go.RowKit
set_option linter.unusedVariables false

/-- How many points are come to before one comes again. -/
def leadN (p f q : Nat) : Nat := ((List.range 61).find? fun n => comesT p f q n (itrT p f q n) != 0).getD 0

/-- How many lines lead to a cycle. -/
def leadL (p f q : Nat) : Nat := comesT p f q (leadN p f q) (itrT p f q (leadN p f q)) - 1

theorem leadN_is (p f q : Nat) (h : 3 ≤ p ∧ p ≤ 60) (hq : q < p) : LeadIs p f q (leadN p f q) := by
  obtain ⟨n, hn⟩ := lead_exists p f q (by omega) hq
  have hl := lead_le (by omega) hq hn
  have e : ((List.range 61).find? fun n => comesT p f q n (itrT p f q n) != 0) = some n := by
    rw [List.find?_range_eq_some]
    refine ⟨by simpa using hn.1, List.mem_range.2 (by omega), fun j hj => ?_⟩
    simp [hn.2 j hj]
  unfold leadN
  rw [e]
  exact hn

theorem leadL_is (p f q : Nat) (h : 3 ≤ p ∧ p ≤ 60) (hq : q < p) : comesT p f q (leadN p f q) (itrT p f q (leadN p f q)) = leadL p f q + 1 := by
  have := (leadN_is p f q h hq).1
  unfold leadL
  omega

theorem lead_bd (p f q : Nat) (h : 3 ≤ p ∧ p ≤ 60) (hq : q < p) : leadL p f q + 1 ≤ leadN p f q ∧ leadN p f q ≤ p :=
  ⟨by rw [← leadL_is p f q h hq]; exact comesT_le _ _ _ _ _, lead_le (by omega) hq (leadN_is p f q h hq)⟩

/-- The greatest number of lines of the first k points. -/
def depthT (p f k : Nat) : Nat := (List.range k).foldl (fun d q => max d (leadL p f q)) 0

theorem depthT_zero (p f : Nat) : depthT p f 0 = 0 := rfl

theorem depthT_succ (p f k : Nat) : depthT p f (k + 1) = max (depthT p f k) (leadL p f k) := by
  simp [depthT, List.range_succ, List.foldl_append]

theorem depthT_le (p f k : Nat) (h : 3 ≤ p ∧ p ≤ 60) (hk : k ≤ p) : depthT p f k ≤ 60 := by
  induction k with
  | zero => rw [depthT_zero]; omega
  | succ k ih =>
    rw [depthT_succ]
    have := ih (by omega)
    have := lead_bd p f k h (by omega)
    omega

set_option maxHeartbeats 400000 in
theorem sLeadOfPoint_yes (p f q n l : Nat) (w : World) (h : 3 ≤ p ∧ p ≤ 60) (hf : f < p) (hq : q < p) (hn : LeadIs p f q n) (hl : comesT p f q n (itrT p f q n) = l + 1) (hln : l + 1 ≤ n ∧ n ≤ p) :
    Calls Try.prog 40 #[.int .i64 p, .int .i64 f, .int .i64 q] w fun e w' => e = .returned (.tuple #[.int .i64 (l : Int), .int .i64 ((n : Int) - (l : Int)), .bool true]) ∧ Below w.heap.size w w' := by
  have g : (3 ≤ (p : Int) ∧ (p : Int) ≤ 60) ∧ (0 ≤ (f : Int) ∧ (f : Int) < p) := by omega
  have HN := Lib.hid hn
  have HL := Lib.hid hl
  obtain ⟨l1, l2⟩ := hln
  clear hn hl
  go_enter Try.func40, Try.ntmps40
  go_wp2_with (first | (go_at_call 42; (with_reducible refine (taAsked_yes _ _ _ _ g (by omega)).mono ?_); rintro e w1 ⟨rfl, rfl⟩) | (go_at_call 66; (with_reducible refine (taLead_any p f q n l _ h hf hq HN.out HL.out).mono ?_); rintro e w1 ⟨v, rfl, hI, hb⟩; obtain ⟨a2, c2, g2, rfl, _, _, _, _, _, _⟩ := hI.view; rw [pathT_length] at *; clear hI))
  go_ret3
  exact ⟨rfl, hb⟩

set_option maxHeartbeats 400000 in
theorem sLeadOfPoint_no (p f q : Int) (w : World) (h : ¬ (((3 ≤ p ∧ p ≤ 60) ∧ (0 ≤ f ∧ f < p)) ∧ (0 ≤ q ∧ q < p))) :
    Calls Try.prog 40 #[.int .i64 p, .int .i64 f, .int .i64 q] w fun e w' => e = .returned (.tuple #[.int .i64 0, .int .i64 0, .bool false]) ∧ Below w.heap.size w w' := by
  go_enter Try.func40, Try.ntmps40
  go_wp2_with (first | (go_at_call 42; (with_reducible refine (taAsked_no _ _ _ _ h).mono ?_); rintro e w1 ⟨rfl, rfl⟩))
  go_ret3
  exact ⟨rfl, Below.refl _ _⟩

set_option maxHeartbeats 400000 in
theorem iLeadOfPoint_yes (p f q n l : Nat) (w : World) (h : 3 ≤ p ∧ p ≤ 60) (hf : f < p) (hq : q < p) (hn : LeadIs p f q n) (hl : comesT p f q n (itrT p f q n) = l + 1) (hln : l + 1 ≤ n ∧ n ≤ p) :
    Calls Try.prog 41 #[.int .i64 p, .int .i64 f, .int .i64 q] w fun e w' => e = .returned (.tuple #[.int .i64 (l : Int), .int .i64 ((n : Int) - (l : Int)), .bool true]) ∧ Below w.heap.size w w' := by
  have g : (3 ≤ (p : Int) ∧ (p : Int) ≤ 60) ∧ (0 ≤ (f : Int) ∧ (f : Int) < p) := by omega
  have HN := Lib.hid hn
  have HL := Lib.hid hl
  clear hn hl
  go_enter Try.func41, Try.ntmps41
  go_wp2_with (first
    | (go_at_call 44; (with_reducible refine (isTable_yes _ _ _ g).mono ?_); rintro e w1 ⟨rfl, rfl⟩)
    | (go_at_call 45; (with_reducible refine (isPoint_yes _ _ _ (by omega)).mono ?_); rintro e w1 ⟨rfl, rfl⟩)
    | (go_at_call 49; (with_reducible refine (rowOf_any _ _ _ h hf).mono ?_); rintro e w1 ⟨rfl, hb1⟩)
    | (go_at_call 67; (with_reducible refine (leadOf_any p f q n l _ h hf hq HN.out HL.out).mono ?_); rintro e w2 ⟨rfl, hb2⟩))
  go_ret3
  exact ⟨rfl, hb1.trans (hb2.mono hb1.size)⟩

set_option maxHeartbeats 400000 in
theorem iLeadOfPoint_no (p f q : Int) (w : World) (h : ¬ (((3 ≤ p ∧ p ≤ 60) ∧ (0 ≤ f ∧ f < p)) ∧ (0 ≤ q ∧ q < p))) :
    Calls Try.prog 41 #[.int .i64 p, .int .i64 f, .int .i64 q] w fun e w' => e = .returned (.tuple #[.int .i64 0, .int .i64 0, .bool false]) ∧ Below w.heap.size w w' := by
  by_cases h1 : (3 ≤ p ∧ p ≤ 60) ∧ (0 ≤ f ∧ f < p)
  · have h2 : ¬ (0 ≤ q ∧ q < p) := fun g => h ⟨h1, g⟩
    clear h
    go_enter Try.func41, Try.ntmps41
    go_wp2_with (first | (go_at_call 44; (with_reducible refine (isTable_yes _ _ _ h1).mono ?_); rintro e w1 ⟨rfl, rfl⟩) | (go_at_call 45; (with_reducible refine (isPoint_no _ _ _ h2).mono ?_); rintro e w1 ⟨rfl, rfl⟩))
    go_ret3
    exact ⟨rfl, Below.refl _ _⟩
  · clear h
    go_enter Try.func41, Try.ntmps41
    go_wp2_with (first | (go_at_call 44; (with_reducible refine (isTable_no _ _ _ h1).mono ?_); rintro e w1 ⟨rfl, rfl⟩))
    go_ret3
    exact ⟨rfl, Below.refl _ _⟩

set_option maxHeartbeats 400000 in
theorem walk_LeadOfPoint (p f q : Int) (w : World) (_ : (Lit.int .i64 p).wf = true) (_ : (Lit.int .i64 f).wf = true) (_ : (Lit.int .i64 q).wf = true) :
    Calls Try.prog 14 #[.int .i64 p, .int .i64 f, .int .i64 q] w fun e w' => e = .returned (.bool true) ∧ Below w.heap.size w w' := by
  by_cases h : ((3 ≤ p ∧ p ≤ 60) ∧ (0 ≤ f ∧ f < p)) ∧ (0 ≤ q ∧ q < p)
  · obtain ⟨p, rfl⟩ := Int.eq_ofNat_of_zero_le (show 0 ≤ p by omega)
    obtain ⟨f, rfl⟩ := Int.eq_ofNat_of_zero_le (show 0 ≤ f by omega)
    obtain ⟨q, rfl⟩ := Int.eq_ofNat_of_zero_le (show 0 ≤ q by omega)
    have h1 : 3 ≤ p ∧ p ≤ 60 := by omega
    have h2 : f < p := by omega
    have h3 : q < p := by omega
    clear h
    have HN := Lib.hid (leadN_is p f q h1 h3)
    have HL := Lib.hid (leadL_is p f q h1 h3)
    have HB := Lib.hid (lead_bd p f q h1 h3)
    obtain ⟨n, hn⟩ : ∃ n, n = leadN p f q := ⟨_, rfl⟩
    obtain ⟨l, hl⟩ : ∃ l, l = leadL p f q := ⟨_, rfl⟩
    rw [← hn] at HN HL HB
    rw [← hl] at HL HB
    clear hn hl
    go_enter Try.func14, Try.ntmps14
    go_wp2_with (first | (go_at_call 40; (with_reducible refine (sLeadOfPoint_yes p f q n l _ h1 h2 h3 HN.out HL.out HB.out).mono ?_); rintro e w1 ⟨rfl, hb1⟩) | (go_at_call 41; (with_reducible refine (iLeadOfPoint_yes p f q n l _ h1 h2 h3 HN.out HL.out HB.out).mono ?_); rintro e w2 ⟨rfl, hb2⟩))
    go_ret
    exact ⟨rfl, hb1.trans (hb2.mono hb1.size)⟩
  · go_enter Try.func14, Try.ntmps14
    go_wp2_with (first | (go_at_call 40; (with_reducible refine (sLeadOfPoint_no _ _ _ _ h).mono ?_); rintro e w1 ⟨rfl, hb1⟩) | (go_at_call 41; (with_reducible refine (iLeadOfPoint_no _ _ _ _ h).mono ?_); rintro e w2 ⟨rfl, hb2⟩))
    go_ret
    exact ⟨rfl, hb1.trans (hb2.mono hb1.size)⟩

end Go.Proofs.Ytincoaebdmikbaa
