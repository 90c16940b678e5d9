/- Times tables: tables that can be undone, orders. -/
import Derived.Test.YtincoaebdmikbaaT6
import Derived.Test.YtincoaebdmikbaaB7
import Derived.Deep.RegionHeld3
namespace Go.Proofs.Ytincoaebdmikbaa
open Go.RowKit
set_option linter.unusedVariables false

/-- The row of a factor as integers. -/
def rowL (p f : Nat) : List Int := rowT p f p ++ List.replicate (60 - p) 0

theorem rowL_length (p f : Nat) (h : p ≤ 60) : (rowL p f).length = 60 := by simp [rowL, rowT_length]; omega

theorem rowV_cells (p f : Nat) : rowV p f p = intCells (rowL p f) := by simp [rowV, rowL, intCells]

theorem rowL_one (p x : Nat) (h : 3 ≤ p) (hx : x < p) : decide (rowL p x = rowL p 1) = (x == 1) := by
  rw [Bool.eq_iff_iff, decide_eq_true_eq, beq_iff_eq]
  constructor
  · intro e
    have h1 : (rowL p x).getD 1 0 = (rowL p 1).getD 1 0 := by rw [e]
    have a : ∀ y, (rowL p y).getD 1 0 = ((1 * y % p : Nat) : Int) := fun y => by
      unfold rowL
      rw [List.getD, List.getElem?_append_left (by rw [rowT_length]; omega), ← rowT_get p y p 1 (by omega), List.getD]
    rw [a, a, Nat.one_mul, Nat.one_mul, Nat.mod_eq_of_lt hx, Nat.mod_eq_of_lt (show 1 < p by omega)] at h1
    omega
  · rintro rfl
    rfl

theorem cells_int : Try.prog.cellsOf 3 = 1 := by kernel_rfl

theorem row_neq (p x : Nat) (h : 3 ≤ p ∧ p ≤ 60) (hx : x < p) (b : Bool) (hb : (x == 1) = !b) (W : World) :
    (binOp .neq 46 (.agg (rowV p x p)) (.agg (rowV p 1 p))).run Try.prog W = .ok (.bool b) W := by
  obtain ⟨i, hi, _⟩ := info_parts info_int
  have h1 := (run_eql_ints (P := Try.prog) W Try.underlying46 hi Try.underlying3 cells_int (rowL p x) (rowL p 1) (rowL_length p x h.2) (rowL_length p 1 h.2) (!b)
    (by rw [all_getD_eq _ _ 60 (rowL_length p x h.2) (rowL_length p 1 h.2), rowL_one p x h.1 hx, hb])).2
  rw [rowV_cells, rowV_cells, h1, Bool.not_not]

theorem row_load (p f g : Nat) (h : p ≤ 60) (W : World) (hr : RowAt W g p f) : (Instr.loadAt 46 (.pointer (some ⟨g, 0, none⟩))).run Try.prog W = .ok (.agg (rowV p f p)) W := by
  simp only [Instr.loadAt, Instr.sureAddr, Sem.run_bind, Sem.run_pure, Result.andThen]
  exact run_loadVar_row W g 46 46 _ (0, 0) _ hr Try.underlying46 rfl (info_rowV p f h)

set_option maxHeartbeats 400000 in
theorem iCanBeUndone_yes (p f : Nat) (b : Bool) (w : World) (h : 3 ≤ p ∧ p ≤ 60) (hf : f < p) (hb : (Nat.gcd p f == 1) = b) :
    Calls Try.prog 33 #[.int .i64 p, .int .i64 f] w fun e w' => e = .returned (.tuple #[.bool b, .bool true]) ∧ Below w.heap.size w w' := by
  have g : (3 ≤ (p : Int) ∧ (p : Int) ≤ 60) ∧ (0 ≤ (f : Int) ∧ (f : Int) < p) := by omega
  obtain ⟨x, hx⟩ : ∃ x, x = Nat.gcd p f := ⟨_, rfl⟩
  have HX := Lib.hid hx
  have e1 : ((x : Int) == 1) = b := by
    rw [← hb, ← hx, Bool.eq_iff_iff, beq_iff_eq, beq_iff_eq]
    omega
  clear hb hx
  go_enter Try.func33, Try.ntmps33
  go_wp2_with (first | (go_at_call 44; (with_reducible refine (isTable_yes _ _ _ g).mono ?_); rintro e w1 ⟨rfl, rfl⟩) | (go_at_call 62; (with_reducible refine (commonDivisor_any p f _ (by omega) (by omega)).mono ?_); rw [← HX.out]; rintro e w1 ⟨rfl, hb⟩))
  go_ret2
  exact ⟨rfl, hb⟩

set_option maxHeartbeats 400000 in
theorem iCanBeUndone_no (p f : Int) (w : World) (h : ¬ ((3 ≤ p ∧ p ≤ 60) ∧ (0 ≤ f ∧ f < p))) :
    Calls Try.prog 33 #[.int .i64 p, .int .i64 f] w fun e w' => e = .returned (.tuple #[.bool false, .bool false]) ∧ Below w.heap.size w w' := by
  go_enter Try.func33, Try.ntmps33
  go_wp2_with (first | (go_at_call 44; (with_reducible refine (isTable_no _ _ _ h).mono ?_); rintro e w1 ⟨rfl, rfl⟩))
  go_ret2
  exact ⟨rfl, Below.refl _ _⟩

set_option maxHeartbeats 400000 in
theorem taUndone_any (p f : Nat) (b : Bool) (w : World) (h : 3 ≤ p ∧ p ≤ 60) (hf : f < p) (hb : (Nat.gcd p f == 1) = b) :
    Calls Try.prog 61 #[.int .i64 p, .int .i64 f] w fun e w' => e = .returned (.bool b) ∧ Below w.heap.size w w' := by
  obtain ⟨x, hx⟩ : ∃ x, x = Nat.gcd p f := ⟨_, rfl⟩
  have HX := Lib.hid hx
  have e1 : ((x : Int) == 1) = b := by
    rw [← hb, ← hx, Bool.eq_iff_iff, beq_iff_eq, beq_iff_eq]
    omega
  clear hb hx
  go_enter Try.func61, Try.ntmps61
  go_wp2_with (first | (go_at_call 71; (with_reducible refine (srCommon_any p f _ (by omega) (by omega)).mono ?_); rw [← HX.out]; rintro e w1 ⟨rfl, hb⟩))
  go_ret
  exact ⟨rfl, hb⟩

set_option maxHeartbeats 400000 in
theorem sCanBeUndone_yes (p f : Nat) (b : Bool) (w : World) (h : 3 ≤ p ∧ p ≤ 60) (hf : f < p) (hb : (Nat.gcd p f == 1) = b) :
    Calls Try.prog 32 #[.int .i64 p, .int .i64 f] w fun e w' => e = .returned (.tuple #[.bool b, .bool true]) ∧ Below w.heap.size w w' := by
  have g : (3 ≤ (p : Int) ∧ (p : Int) ≤ 60) ∧ (0 ≤ (f : Int) ∧ (f : Int) < p) := by omega
  have HB := Lib.hid hb
  clear hb
  go_enter Try.func32, Try.ntmps32
  go_wp2_with (first | (go_at_call 47; (with_reducible refine (taGood_yes _ _ _ g).mono ?_); rintro e w1 ⟨rfl, rfl⟩) | (go_at_call 61; (with_reducible refine (taUndone_any p f b _ h hf HB.out).mono ?_); rintro e w1 ⟨rfl, hb⟩))
  go_ret2
  exact ⟨rfl, hb⟩

set_option maxHeartbeats 400000 in
theorem sCanBeUndone_no (p f : Int) (w : World) (h : ¬ ((3 ≤ p ∧ p ≤ 60) ∧ (0 ≤ f ∧ f < p))) :
    Calls Try.prog 32 #[.int .i64 p, .int .i64 f] w fun e w' => e = .returned (.tuple #[.bool false, .bool false]) ∧ Below w.heap.size w w' := by
  go_enter Try.func32, Try.ntmps32
  go_wp2_with (first | (go_at_call 47; (with_reducible refine (taGood_no _ _ _ h).mono ?_); rintro e w1 ⟨rfl, rfl⟩))
  go_ret2
  exact ⟨rfl, Below.refl _ _⟩

set_option maxHeartbeats 400000 in
theorem walk_CanBeUndone (p f : Int) (w : World) (_ : (Lit.int .i64 p).wf = true) (_ : (Lit.int .i64 f).wf = true) :
    Calls Try.prog 10 #[.int .i64 p, .int .i64 f] w fun e w' => e = .returned (.bool true) ∧ Below w.heap.size w w' := by
  by_cases h : (3 ≤ p ∧ p ≤ 60) ∧ (0 ≤ f ∧ f < p)
  · obtain ⟨p, rfl⟩ := Int.eq_ofNat_of_zero_le (show 0 ≤ p by omega)
    obtain ⟨f, rfl⟩ := Int.eq_ofNat_of_zero_le (show 0 ≤ f by omega)
    have h1 : 3 ≤ p ∧ p ≤ 60 := by omega
    have h2 : f < p := by omega
    clear h
    obtain ⟨b, hb⟩ : ∃ b, (Nat.gcd p f == 1) = b := ⟨_, rfl⟩
    have HB := Lib.hid hb
    clear hb
    cases b
    all_goals
      go_enter Try.func10, Try.ntmps10
      go_wp2_with (first | (go_at_call 32; (with_reducible refine (sCanBeUndone_yes p f _ _ h1 h2 HB.out).mono ?_); rintro e w1 ⟨rfl, hb1⟩) | (go_at_call 33; (with_reducible refine (iCanBeUndone_yes p f _ _ h1 h2 HB.out).mono ?_); rintro e w2 ⟨rfl, hb2⟩))
      go_ret
      exact ⟨rfl, hb1.trans (hb2.mono hb1.size)⟩
  · go_enter Try.func10, Try.ntmps10
    go_wp2_with (first | (go_at_call 32; (with_reducible refine (sCanBeUndone_no _ _ _ h).mono ?_); rintro e w1 ⟨rfl, hb1⟩) | (go_at_call 33; (with_reducible refine (iCanBeUndone_no _ _ _ h).mono ?_); rintro e w2 ⟨rfl, hb2⟩))
    go_ret
    exact ⟨rfl, hb1.trans (hb2.mono hb1.size)⟩

set_option maxHeartbeats 1000000 in
theorem taOrder_any (p f : Nat) (w : World) (h : 3 ≤ p ∧ p ≤ 60) (hf : f < p) (hg : Nat.gcd p f = 1) :
    Calls Try.prog 63 #[.int .i64 p, .int .i64 f] w fun e w' => e = .returned (.int .i64 (ordT p f : Nat)) ∧ Below w.heap.size w w' := by
  obtain ⟨o1, o2, o3, o4⟩ := ord_all p f h hf hg
  obtain ⟨n, hn⟩ : ∃ n, n = ordT p f := ⟨_, rfl⟩
  rw [← hn] at o1 o2 o3 o4 ⊢
  have H1 := Lib.hid (show f ^ 1 % p = f by rw [Nat.pow_one, Nat.mod_eq_of_lt hf])
  have H3 := Lib.hid o3
  have H4 := Lib.hid o4
  clear o3 o4 hn hg
  have p0 : 0 < (p : Int) := by omega
  obtain ⟨hp1, hp2⟩ := h
  go_enter Try.func63, Try.ntmps63
  go_wp2
  go_loopw [5, 6] (fun u v wr => ∃ k x : Nat, 1 ≤ k ∧ k ≤ n ∧ x < p ∧ Hid (f ^ k % p = x) ∧ u = .int .i64 k ∧ v = .int .i64 x ∧ Below w.heap.size w wr) (fun u _ _ => n - (intOf u).toNat)
  case atStart => exact ⟨1, f, by omega, o1, hf, H1, rfl, rfl, by first | exact Below.refl _ _ | go_grown | exact bdn (Below.refl _ _) _⟩
  case round =>
    obtain ⟨k, x, hk1, hk2, hx, HX, rfl, rfl, hB⟩ := hrel
    by_cases hlt : k < n
    · have e1 : ((x : Int) != 1) = true := bne_iff_ne.2 (fun e => H4.out k hlt hk1 (by rw [HX.out]; omega))
      have e2 : ((x : Int) == 1) = false := beq_eq_false_iff_ne.2 (fun e => H4.out k hlt hk1 (by rw [HX.out]; omega))
      obtain ⟨m1, m2⟩ := mul_bd60 (a := x) (b := f) (by omega) (by omega)
      have HN := Lib.hid (show f ^ (k + 1) % p = x * f % p by rw [Nat.pow_succ, Nat.mul_mod, HX.out, Nat.mod_eq_of_lt hf])
      have hxl := Nat.mod_lt (x * f) (show 0 < p by omega)
      go_wp2
      go_roundw
      case rel => exact ⟨k + 1, x * f % p, by omega, by omega, hxl, HN, by go_num, by first | rfl | simp, by first | exact hB | go_grown⟩
      case measure => simp [intOf]; omega
    · obtain rfl : k = n := by omega
      obtain rfl : x = 1 := by rw [← HX.out, H3.out]
      go_wp2
      go_ret
      exact ⟨rfl, hB⟩

end Go.Proofs.Ytincoaebdmikbaa
