/- Contracts of the functions of stars: numbers, and the laws over them. -/
import Derived.Test.YtbgcbokddldmkaaDoorW2
namespace Go.Proofs.YtbgcbokddldmkaaDoor
open Go.RowKit

/-! NextPoint -/
set_option maxHeartbeats 400000 in
theorem nextPoint_yes (p s k : Int) (w : World) (h : 3 ≤ p ∧ p ≤ 60 ∧ 1 ≤ s ∧ s < p) (hk : 0 ≤ k ∧ k < p) :
    Calls Tryd.prog 170 #[.agg #[.int .i64 p, .int .i64 s], .int .i64 k] w fun e w' => e = .returned (.tuple #[.int .i64 ((k + s) % p), .bool true]) ∧ Below w.heap.size w w' := by
  go_enter Tryd.func170, Tryd.ntmps170
  go_wp2_with (first | (go_at_call 192; (with_reducible refine (pointAfter_yes _ _ _ 1 _ h hk (by omega)).mono ?_); rintro e w1 ⟨rfl, hb⟩; obtain ⟨hc, hf⟩ := bcell hb; (have hz : w.heap.size < w1.heap.size := by (have := hb.size; (try simp at this); omega)); (have hB : Below w.heap.size w w1 := by (refine Below.trans ?_ (hb.mono (by first | (simp; done) | omega | (simp; omega))); go_grown))))
  go_ret2
  exact ⟨by simp, hB⟩

set_option maxHeartbeats 400000 in
theorem nextPoint_no (p s k : Int) (w : World) (h : ¬ ((3 ≤ p ∧ p ≤ 60 ∧ 1 ≤ s ∧ s < p) ∧ (0 ≤ k ∧ k < p))) :
    Calls Tryd.prog 170 #[.agg #[.int .i64 p, .int .i64 s], .int .i64 k] w fun e w' => e = .returned (.tuple #[.int .i64 0, .bool false]) ∧ Below w.heap.size w w' := by
  have h' : ¬ ((3 ≤ p ∧ p ≤ 60 ∧ 1 ≤ s ∧ s < p) ∧ (0 ≤ k ∧ k < p) ∧ (0 ≤ (1 : Int) ∧ (1 : Int) ≤ 1000000)) := by omega
  clear h
  have H := Lib.hid h'
  clear h'
  go_enter Tryd.func170, Tryd.ntmps170
  go_wp2_with (first | (go_at_call 192; (with_reducible refine (pointAfter_no _ _ _ 1 _ H.out).mono ?_); rintro e w1 ⟨rfl, hb⟩; obtain ⟨hc, hf⟩ := bcell hb; (have hz : w.heap.size < w1.heap.size := by (have := hb.size; (try simp at this); omega)); (have hB : Below w.heap.size w w1 := by (refine Below.trans ?_ (hb.mono (by first | (simp; done) | omega | (simp; omega))); go_grown))))
  go_ret2
  exact ⟨rfl, hB⟩

/-! CountStrings -/
set_option maxHeartbeats 400000 in
theorem iCountStrings_yes (p s : Nat) (w : World) (h : 3 ≤ p ∧ p ≤ 60 ∧ 1 ≤ s ∧ s < p) :
    Calls Tryd.prog 167 #[.agg #[.int .i64 p, .int .i64 s]] w fun e w' => e = .returned (.tuple #[.int .i64 ((Nat.gcd p s : Nat)), .bool true]) ∧ Below w.heap.size w w' := by
  have g : 3 ≤ (p : Int) ∧ (p : Int) ≤ 60 ∧ 1 ≤ (s : Int) ∧ (s : Int) < p := by omega
  go_enter Tryd.func167, Tryd.ntmps167
  go_wp2_with (first | (go_at_call 82; (with_reducible refine (isStar_yes _ _ _ g).mono ?_); rintro e w1 ⟨rfl, hb⟩; obtain ⟨hc, hf⟩ := bcell hb; (have hz : w.heap.size < w1.heap.size := by (have := hb.size; (try simp at this); omega)); (have hB : Below w.heap.size w w1 := by (refine Below.trans ?_ (hb.mono (by first | (simp; done) | omega | (simp; omega))); go_grown))) | (go_at_call 190; (with_reducible refine (commonDivisor_any _ _ _ (by omega) (by omega)).mono ?_); rintro e w1 ⟨rfl, hb⟩; obtain ⟨hc, hf⟩ := bcell hb; (have hz : w.heap.size < w1.heap.size := by (have := hb.size; (try simp at this); omega)); (have hB : Below w.heap.size w w1 := by (refine Below.trans ?_ (hb.mono (by first | (simp; done) | omega | (simp; omega))); go_grown))))
  go_ret2
  exact ⟨rfl, hB⟩

set_option maxHeartbeats 400000 in
theorem iCountStrings_no (p s : Int) (w : World) (h : ¬ (3 ≤ p ∧ p ≤ 60 ∧ 1 ≤ s ∧ s < p)) :
    Calls Tryd.prog 167 #[.agg #[.int .i64 p, .int .i64 s]] w fun e w' => e = .returned (.tuple #[.int .i64 0, .bool false]) ∧ Below w.heap.size w w' := by
  go_enter Tryd.func167, Tryd.ntmps167
  go_wp2_with (first | (go_at_call 82; (with_reducible refine (isStar_no _ _ _ h).mono ?_); rintro e w1 ⟨rfl, hb⟩; obtain ⟨hc, hf⟩ := bcell hb; (have hz : w.heap.size < w1.heap.size := by (have := hb.size; (try simp at this); omega)); (have hB : Below w.heap.size w w1 := by (refine Below.trans ?_ (hb.mono (by first | (simp; done) | omega | (simp; omega))); go_grown))))
  go_ret2
  exact ⟨rfl, hB⟩

/-! TurnsOf -/
set_option maxHeartbeats 400000 in
theorem iTurnsOf_yes (p s : Nat) (w : World) (h : 3 ≤ p ∧ p ≤ 60 ∧ 1 ≤ s ∧ s < p) :
    Calls Tryd.prog 168 #[.agg #[.int .i64 p, .int .i64 s]] w fun e w' => e = .returned (.tuple #[.int .i64 (((s : Int) / (Nat.gcd p s : Nat))), .bool true]) ∧ Below w.heap.size w w' := by
  have g : 3 ≤ (p : Int) ∧ (p : Int) ≤ 60 ∧ 1 ≤ (s : Int) ∧ (s : Int) < p := by omega
  have hg1 : 1 ≤ Nat.gcd p s := Nat.gcd_pos_of_pos_left s (by omega)
  have hg2 : Nat.gcd p s ≤ 60 := Nat.le_trans (Nat.gcd_le_left s (by omega)) h.2.1
  have hg3 : (1 : Int) ≤ ((Nat.gcd p s : Nat) : Int) := by omega
  have q1 : 0 ≤ (s : Int) / ((Nat.gcd p s : Nat) : Int) := Int.ediv_nonneg (by omega) (by omega)
  have q2 : (s : Int) / ((Nat.gcd p s : Nat) : Int) ≤ s := Int.ediv_le_self _ (by omega)
  clear hg1 hg2
  go_enter Tryd.func168, Tryd.ntmps168
  go_wp2_with (first | (go_at_call 167; (with_reducible refine (iCountStrings_yes _ _ _ h).mono ?_); rintro e w1 ⟨rfl, hb⟩; obtain ⟨hc, hf⟩ := bcell hb; (have hz : w.heap.size < w1.heap.size := by (have := hb.size; (try simp at this); omega)); (have hB : Below w.heap.size w w1 := by (refine Below.trans ?_ (hb.mono (by first | (simp; done) | omega | (simp; omega))); go_grown))))
  go_ret2
  exact ⟨rfl, hB⟩

set_option maxHeartbeats 400000 in
theorem iTurnsOf_no (p s : Int) (w : World) (h : ¬ (3 ≤ p ∧ p ≤ 60 ∧ 1 ≤ s ∧ s < p)) :
    Calls Tryd.prog 168 #[.agg #[.int .i64 p, .int .i64 s]] w fun e w' => e = .returned (.tuple #[.int .i64 0, .bool false]) ∧ Below w.heap.size w w' := by
  go_enter Tryd.func168, Tryd.ntmps168
  go_wp2_with (first | (go_at_call 167; (with_reducible refine (iCountStrings_no _ _ _ h).mono ?_); rintro e w1 ⟨rfl, hb⟩; obtain ⟨hc, hf⟩ := bcell hb; (have hz : w.heap.size < w1.heap.size := by (have := hb.size; (try simp at this); omega)); (have hB : Below w.heap.size w w1 := by (refine Below.trans ?_ (hb.mono (by first | (simp; done) | omega | (simp; omega))); go_grown))))
  go_ret2
  exact ⟨rfl, hB⟩

set_option maxHeartbeats 400000 in
theorem l1Least_any (a b : Int) (w : World) :
    Calls Tryd.prog 188 #[.int .i64 a, .int .i64 b] w fun e w' => e = .returned (.int .i64 (min a b)) ∧ w = w' := by
  by_cases h : a < b
  · go_enter Tryd.func188, Tryd.ntmps188
    go_wp2
    go_ret
    exact ⟨by rw [Int.min_eq_left (by omega)]; rfl, rfl⟩
  · go_enter Tryd.func188, Tryd.ntmps188
    go_wp2
    go_ret
    exact ⟨by rw [Int.min_eq_right (by omega)]; rfl, rfl⟩

end Go.Proofs.YtbgcbokddldmkaaDoor
