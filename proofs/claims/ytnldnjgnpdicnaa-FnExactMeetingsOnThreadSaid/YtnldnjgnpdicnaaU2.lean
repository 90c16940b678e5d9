/- Fractions in lowest terms, meetings and heights. -/
import Derived.Test.YtnldnjgnpdicnaaU1
namespace Go.Proofs.Ytnldnjgnpdicnaa
open Go.RowKit
set_option linter.unusedVariables false

/-- Above and below of n by d in lowest terms. -/
def lowA (n d : Nat) : Nat := n / Nat.gcd n d
def lowB (n d : Nat) : Nat := d / Nat.gcd n d

theorem low_letters (n d : Nat) (hd : 1 ≤ d) : ∃ g x y : Nat, Nat.gcd n d = g ∧ 1 ≤ g ∧ lowA n d = x ∧ lowB n d = y ∧ n = x * g ∧ d = y * g ∧ x ≤ n ∧ 1 ≤ y ∧ y ≤ d ∧ (n : Int) / (g : Int) = x ∧ (d : Int) / (g : Int) = y := by
  refine ⟨_, _, _, rfl, Nat.gcd_pos_of_pos_right _ hd, rfl, rfl, ?_, ?_, Nat.div_le_self _ _, ?_, Nat.div_le_self _ _, ?_, ?_⟩
  · exact (Nat.div_mul_cancel (Nat.gcd_dvd_left n d)).symm
  · exact (Nat.div_mul_cancel (Nat.gcd_dvd_right n d)).symm
  · exact Nat.div_pos (Nat.le_of_dvd hd (Nat.gcd_dvd_right n d)) (Nat.gcd_pos_of_pos_right _ hd)
  · rw [lowA]; exact (Int.natCast_ediv _ _).symm
  · rw [lowB]; exact (Int.natCast_ediv _ _).symm

set_option maxHeartbeats 400000 in
theorem sgLow_any (n d : Nat) (w : World) (hn : n ≤ 1000000000) (hd : 1 ≤ d) (hd2 : d ≤ 1000000000) :
    Calls Try.prog 114 #[.int .i64 n, .int .i64 d] w fun e w' => e = .returned (.tuple #[.int .i64 (lowA n d : Nat), .int .i64 (lowB n d : Nat)]) ∧ Below w.heap.size w w' := by
  obtain ⟨g, x, y, hg, hg1, hx, hy, e1, e2, hxn, hy1, hyd, q1, q2⟩ := low_letters n d hd
  clear e1 e2
  rw [hx, hy]
  have hw1 : IntKind.i64.wrap (x : Int) = x := by rw [IntKind.wrap_i64]; omega
  have hw2 : IntKind.i64.wrap (y : Int) = y := by rw [IntKind.wrap_i64]; omega
  have g3 : (1 : Int) ≤ (g : Int) := by omega
  have HG := Lib.hid hg
  clear hg hx hy
  go_enter Try.func114, Try.ntmps114
  go_wp2_with (first | (go_at_call 96; (with_reducible refine (srCommon_any n d _ (by omega) (by omega)).mono ?_); rintro e w1 ⟨rfl, hb⟩; rw [HG.out]))
  go_quiet (fail)
  go_wp2
  go_ret2
  exact ⟨by simp, bdn hb _⟩

set_option maxHeartbeats 400000 in
theorem fractionOf_any (n d : Nat) (w : World) (hn : n ≤ 1000000000) (hd : 1 ≤ d) (hd2 : d ≤ 1000000000) :
    Calls Try.prog 122 #[.int .i64 n, .int .i64 d] w fun e w' => e = .returned (.agg #[.int .i64 (lowA n d : Nat), .int .i64 (lowB n d : Nat)]) ∧ Below w.heap.size w w' := by
  obtain ⟨g, x, y, hg, hg1, hx, hy, e1, e2, hxn, hy1, hyd, q1, q2⟩ := low_letters n d hd
  clear e1 e2
  rw [hx, hy]
  have hw1 : IntKind.i64.wrap (x : Int) = x := by rw [IntKind.wrap_i64]; omega
  have hw2 : IntKind.i64.wrap (y : Int) = y := by rw [IntKind.wrap_i64]; omega
  have g0 : ¬ g = 0 := by omega
  have HG := Lib.hid hg
  clear hg hx hy
  go_enter Try.func122, Try.ntmps122
  go_wp2_with (first | (go_at_call 95; (with_reducible refine (commonDivisor_any n d _ (by omega) (by omega)).mono ?_); rintro e w1 ⟨rfl, hb⟩; rw [HG.out]; (have c0 : w1.cell? ⟨w.heap.size, 0, none⟩ = some (.int .i64 0) := cellB hb (by go_simp)); (have c1 : w1.cell? ⟨w.heap.size, 1, none⟩ = some (.int .i64 0) := cellB hb (by go_simp)); (have f0 : w1.frozen? ⟨w.heap.size, 0, none⟩ = false := (hb.frozen (p := ⟨w.heap.size, 0, none⟩) (by simp)).trans (by go_simp)); (have f1 : w1.frozen? ⟨w.heap.size, 1, none⟩ = false := (hb.frozen (p := ⟨w.heap.size, 1, none⟩) (by simp)).trans (by go_simp)); (have hz : w.heap.size < w1.heap.size := by have := hb.size; simp at this; omega); (have hB : Below w.heap.size w w1 := Below.trans (by go_grown) (hb.mono (by simp))); clear hb))
  go_region_held3 (fun _ => True) (trivial) (fail)
  go_wp2
  exact bodyPost_ret (v := .agg #[.int .i64 (x : Int), .int .i64 (y : Int)]) (by simp [results, Try.results122, go_sem, *]) rfl ⟨rfl, by go_grown⟩

/-! heights -/
/-- How high above: the numerator before it is in lowest terms. -/
def hgt (a b x : Int) : Nat := (b * (a - x)).toNat

theorem hgt_letters (a b x : Int) (h : isT a b) (hx : 0 ≤ x ∧ x ≤ a) : ∃ m k : Nat, hgt a b x = m ∧ b * (a - x) = (m : Int) ∧ m ≤ 10000 ∧ a = (k : Int) ∧ 1 ≤ k ∧ k ≤ 100 ∧ 0 ≤ a - x ∧ a - x ≤ 100 := by
  obtain ⟨⟨h1, h2⟩, h3, h4⟩ := h
  have hm1 : 0 ≤ b * (a - x) := Int.mul_nonneg (by omega) (by omega)
  have hm2 : b * (a - x) ≤ 100 * 100 := Int.mul_le_mul h4 (by omega) (by omega) (by omega)
  refine ⟨_, a.toNat, rfl, ?_, ?_, ?_, ?_, ?_, by omega, by omega⟩
  · unfold hgt; omega
  · unfold hgt; omega
  · omega
  · omega
  · omega

end Go.Proofs.Ytnldnjgnpdicnaa
