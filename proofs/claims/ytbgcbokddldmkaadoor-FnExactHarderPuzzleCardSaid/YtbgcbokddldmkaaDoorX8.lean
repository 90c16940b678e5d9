/- What a star tells, and whether it fits a clue: both sides. -/
import Derived.Test.YtbgcbokddldmkaaDoorX7
import Derived.Test.YtbgcbokddldmkaaDoorZY
import Derived.Test.YtbgcbokddldmkaaDoorW3
namespace Go.Proofs.YtbgcbokddldmkaaDoor
open Go.RowKit
set_option linter.unusedVariables false

/-! the model -/
set_option maxHeartbeats 1000000 in
theorem pzValue_any (k q : Int) (p s : Nat) (w : World) (h : 3 ≤ p ∧ p ≤ 14 ∧ 1 ≤ s ∧ s < p) (hk : 0 ≤ k ∧ k ≤ 5 ∧ k ≠ 4) :
    Calls Tryd.prog 127 #[.int .i64 k, .int .i64 q, .agg #[.int .i64 (p : Int), .int .i64 (s : Int)]] w fun e w' => e = .returned (.int .i64 (valZ k p s)) ∧ Below w.heap.size w w' := by
  have h60 : 3 ≤ p ∧ p ≤ 60 ∧ 1 ≤ s ∧ s < p := by omega
  have hk2 : k = 0 ∨ k = 1 ∨ k = 2 ∨ k = 3 ∨ k = 5 := by omega
  rcases hk2 with rfl | rfl | rfl | rfl | rfl
  · go_enter Tryd.func127, Tryd.ntmps127
    go_wp2
    go_ret
    exact ⟨by simp [valZ], by go_grown⟩
  · go_enter Tryd.func127, Tryd.ntmps127
    go_wp2_with (first | (go_at_call 149; (with_reducible refine (srCommon_any p s _ (by omega) (by omega)).mono ?_); rintro e w1 ⟨rfl, hb1⟩))
    go_ret
    exact ⟨by simp [valZ], Below.trans (by go_grown) (hb1.mono (by first | (simp; done) | (simp; omega)))⟩
  · have hg1 : 1 ≤ Nat.gcd p s := Nat.gcd_pos_of_pos_left s (by omega)
    have hg2 : Nat.gcd p s ≤ 60 := Nat.le_trans (Nat.gcd_le_left s (by omega)) h60.2.1
    have hg3 : (1 : Int) ≤ ((Nat.gcd p s : Nat) : Int) := by omega
    have q1 : 0 ≤ (s : Int) / ((Nat.gcd p s : Nat) : Int) := Int.ediv_nonneg (by omega) (by omega)
    have q2 : (s : Int) / ((Nat.gcd p s : Nat) : Int) ≤ s := Int.ediv_le_self _ (by omega)
    have hv : valZ 2 p s = (s : Int) / ((Nat.gcd p s : Nat) : Int) := by simp [valZ]
    have HV := Lib.hid hv
    rw [hv]
    clear hg1 hg2 hv hk
    go_enter Tryd.func127, Tryd.ntmps127
    go_wp2
    go_quiet ((go_at_call 149; exact Calls.quiet_of (srCommon_q _ _ _ (by omega) (by omega))))
    go_wp2
    go_ret
    exact ⟨rfl, bdn (by go_grown) _⟩
  · have hl := starC_length p s
    have HO := Lib.hid (starC_pairs p s h60.2.2)
    go_enter Tryd.func127, Tryd.ntmps127
    go_wp2_with (first | (go_at_call 151; (with_reducible refine (srChords_any p s _ h60).mono ?_); rintro e w2 ⟨v2, rfl, hp2, hb2⟩; (have B2 : Below w.heap.size w w2 := Below.trans (by go_grown) (hb2.mono (by first | (simp; done) | (simp; omega)))); have n2 := B2.size) | (go_at_call 150; (with_reducible refine (srCount_any _ _ _ _ _ hp2 HO.out (by omega)).mono ?_); rintro e w3 ⟨rfl, hb3⟩))
    go_ret
    exact ⟨by simp [valZ], B2.trans (hb3.mono n2)⟩
  · have hl := starC_length p s
    go_enter Tryd.func127, Tryd.ntmps127
    go_wp2_with (first | (go_at_call 151; (with_reducible refine (srChords_any p s _ h60).mono ?_); rintro e w2 ⟨v2, rfl, hp2, hb2⟩; (have B2 : Below w.heap.size w w2 := Below.trans (by go_grown) (hb2.mono (by first | (simp; done) | (simp; omega)))); have n2 := B2.size; (obtain ⟨a1, c1, g1, rfl, _⟩ := hp2.pairs.view)))
    go_ret
    exact ⟨by simp [valZ], B2⟩

set_option maxHeartbeats 400000 in
theorem pzValue_line (q : Int) (p s : Nat) (w : World) (h : 3 ≤ p ∧ p ≤ 14 ∧ 1 ≤ s ∧ s < p) (hq : 0 ≤ q ∧ q < p) :
    Calls Tryd.prog 127 #[.int .i64 4, .int .i64 q, .agg #[.int .i64 (p : Int), .int .i64 (s : Int)]] w fun e w' => e = .returned (.int .i64 ((q + s) % p)) ∧ Below w.heap.size w w' := by
  have n1 : ¬ p = 0 := by omega
  have n2 : ¬ (p : Int) = 0 := by omega
  have hw : IntKind.i64.wrap (q + (s : Int)) = q + (s : Int) := by rw [IntKind.wrap_i64]; omega
  have hr0 : 0 ≤ (q + (s : Int)) % (p : Int) := Int.emod_nonneg _ (by omega)
  have hr1 : (q + (s : Int)) % (p : Int) < (p : Int) := Int.emod_lt_of_pos _ (by omega)
  have htm : Int.tmod (q + (s : Int)) (p : Int) = (q + (s : Int)) % (p : Int) := Int.tmod_eq_emod_of_nonneg (by omega)
  have hw2 : IntKind.i64.wrap ((q + (s : Int)) % (p : Int)) = (q + (s : Int)) % (p : Int) := by rw [IntKind.wrap_i64]; omega
  go_enter Tryd.func127, Tryd.ntmps127
  go_wp2
  go_ret
  exact ⟨rfl, by go_grown⟩

set_option maxHeartbeats 1000000 in
theorem pzFits_any (k a b : Int) (p s : Nat) (t : Bool) (w : World) (hc : clueP (k, a, b)) (h : 3 ≤ p ∧ p ≤ 14 ∧ 1 ≤ s ∧ s < p) (ht : fitZ (k, a, b) p s = t) :
    Calls Tryd.prog 98 #[.agg #[.int .i64 k, .int .i64 a, .int .i64 b], .agg #[.int .i64 (p : Int), .int .i64 (s : Int)]] w fun e w' => e = .returned (.bool t) ∧ Below w.heap.size w w' := by
  have hc' := (clueP_iff k a b).1 hc
  by_cases hk : k = 4
  · subst hk
    obtain ⟨_, ⟨_, _, _, _, h4, _⟩, _⟩ := hc'
    obtain ⟨⟨ha0, ha1⟩, hb0, hb1⟩ := h4 rfl
    have hf : fitZ (4, a, b) p s = decide (a < (p : Int) ∧ (a + s) % (p : Int) = b) := by simp [fitZ]
    rw [hf] at ht
    by_cases hlt : a < (p : Int)
    · have hlit : decide (a < (p : Int)) = true := decide_eq_true hlt
      obtain ⟨r, hr⟩ : ∃ r, (a + (s : Int)) % (p : Int) = r := ⟨_, rfl⟩
      have hv := fun W => pzValue_line a p s W h ⟨ha0, hlt⟩
      rw [hr] at ht hv
      have htt : (r == b) = t := by rw [← ht]; by_cases e : r = b <;> simp [e, hlt]
      have HV := Lib.hid hv
      have HT := Lib.hid htt
      clear hc hf ht hr hv htt
      go_enter Tryd.func98, Tryd.ntmps98
      go_wp2
      go_region_held3 (fun w' => w'.cell? ⟨w.heap.size, 0, none⟩ = some (.int .i64 4) ∧ w'.cell? ⟨w.heap.size, 1, none⟩ = some (.int .i64 a) ∧ w'.cell? ⟨w.heap.size, 2, none⟩ = some (.int .i64 b) ∧ w'.cell? ⟨w.heap.size + 1, 0, none⟩ = some (.int .i64 (p : Int)) ∧ w'.cell? ⟨w.heap.size + 1, 1, none⟩ = some (.int .i64 (s : Int))) (go_keep)
        (first | (go_at_call 127; (refine (HV.out _).mono ?_); rintro e w1 ⟨rfl, hb1⟩; (have d0 : w1.cell? ⟨w.heap.size, 0, none⟩ = some (.int .i64 4) := cellB hb1 (by go_simp)); (have d1 : w1.cell? ⟨w.heap.size, 1, none⟩ = some (.int .i64 a) := cellB hb1 (by go_simp)); (have d2 : w1.cell? ⟨w.heap.size, 2, none⟩ = some (.int .i64 b) := cellB hb1 (by go_simp)); (have d3 : w1.cell? ⟨w.heap.size + 1, 0, none⟩ = some (.int .i64 (p : Int)) := cellB hb1 (by go_simp)); (have d4 : w1.cell? ⟨w.heap.size + 1, 1, none⟩ = some (.int .i64 (s : Int)) := cellB hb1 (by go_simp)); (have hB1 : Below w.heap.size w w1 := Below.trans (by go_grown) (hb1.mono (by first | omega | (simp; done) | (simp; omega))))))
      go_wp2
      go_ret
      exact ⟨by rw [HT.out]; rfl, hB1⟩
    · have hlit : decide (a < (p : Int)) = false := decide_eq_false hlt
      obtain rfl : t = false := by rw [← ht]; exact decide_eq_false (fun g => hlt g.1)
      clear hc hf ht
      go_enter Tryd.func98, Tryd.ntmps98
      go_wp2
      go_quiet (fail)
      go_wp2
      go_ret
      exact ⟨rfl, by first | exact bdn (by go_grown) _ | go_grown⟩
  · have hk' : (k == 4) = false := beq_eq_false_iff_ne.2 hk
    have hv := fun W => pzValue_any k 0 p s W h ⟨hc'.1.1, hc'.1.2, hk⟩
    have hf : fitZ (k, a, b) p s = decide (valZ k p s = a) := by simp [fitZ, hk]
    rw [hf] at ht
    obtain ⟨r, hr⟩ : ∃ r, valZ k p s = r := ⟨_, rfl⟩
    rw [hr] at ht hv
    have htt : (r == a) = t := by rw [← ht]; by_cases e : r = a <;> simp [e]
    have HV := Lib.hid hv
    have HT := Lib.hid htt
    clear hc hc' hf ht hr hv htt
    go_enter Tryd.func98, Tryd.ntmps98
    go_wp2
    go_region_held3 (fun w' => w'.cell? ⟨w.heap.size, 0, none⟩ = some (.int .i64 k) ∧ w'.cell? ⟨w.heap.size, 1, none⟩ = some (.int .i64 a) ∧ w'.cell? ⟨w.heap.size, 2, none⟩ = some (.int .i64 b) ∧ w'.cell? ⟨w.heap.size + 1, 0, none⟩ = some (.int .i64 (p : Int)) ∧ w'.cell? ⟨w.heap.size + 1, 1, none⟩ = some (.int .i64 (s : Int))) (go_keep)
      (first | (go_at_call 127; (refine (HV.out _).mono ?_); rintro e w1 ⟨rfl, hb1⟩; (have d0 : w1.cell? ⟨w.heap.size, 0, none⟩ = some (.int .i64 k) := cellB hb1 (by go_simp)); (have d1 : w1.cell? ⟨w.heap.size, 1, none⟩ = some (.int .i64 a) := cellB hb1 (by go_simp)); (have d2 : w1.cell? ⟨w.heap.size, 2, none⟩ = some (.int .i64 b) := cellB hb1 (by go_simp)); (have d3 : w1.cell? ⟨w.heap.size + 1, 0, none⟩ = some (.int .i64 (p : Int)) := cellB hb1 (by go_simp)); (have d4 : w1.cell? ⟨w.heap.size + 1, 1, none⟩ = some (.int .i64 (s : Int)) := cellB hb1 (by go_simp)); (have hB1 : Below w.heap.size w w1 := Below.trans (by go_grown) (hb1.mono (by first | omega | (simp; done) | (simp; omega))))))
    go_wp2
    go_ret
    exact ⟨by rw [HT.out]; rfl, hB1⟩
end Go.Proofs.YtbgcbokddldmkaaDoor
