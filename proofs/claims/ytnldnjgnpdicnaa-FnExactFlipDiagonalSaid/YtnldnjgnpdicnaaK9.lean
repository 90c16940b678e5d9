/- How many chords cross a chord; the chord that crosses the most. -/
import Derived.Test.YtnldnjgnpdicnaaK7
namespace Go.Proofs.Ytnldnjgnpdicnaa
open Go.RowKit
set_option linter.unusedVariables false

set_option maxHeartbeats 600000 in
theorem countCrossing_any (u : Value) (xs : List (Int × Int)) (a b : Int) (B T : Nat) (w : World) (h : PairsIn 52 w B T u xs) (hn : xs.length ≤ 1000000) :
    Calls Try.prog 75 #[u, .agg #[.int .i64 a, .int .i64 b]] w fun e w' => e = .returned (.int .i64 (cntC (a, b) xs : Nat)) ∧ Below w.heap.size w w' := by
  obtain ⟨a1, c1, g1, rfl, ha1, hmm, hx1, hy1⟩ := h.pairs.view
  have X := Lib.hid hx1
  have Y := Lib.hid hy1
  have HA := Lib.hid ha1
  clear h ha1 hx1 hy1 hmm
  go_enter Try.func75, Try.ntmps75
  go_wp2
  go_loopw [5, 10] (fun c i wr => ∃ k : Nat, k ≤ xs.length ∧ i = .int .i64 k ∧ c = .int .i64 (cntC (a, b) (xs.take k) : Nat) ∧ Below w.heap.size w wr ∧ wr.cell? ⟨w.heap.size, 0, none⟩ = some (.int .i64 a) ∧ wr.cell? ⟨w.heap.size, 1, none⟩ = some (.int .i64 b) ∧ w.heap.size < wr.heap.size) (fun _ i _ => xs.length - (intOf i).toNat)
  case atStart => exact ⟨0, by omega, rfl, by simp [cntC], by go_grown, by go_simp, by go_simp, by simp⟩
  case round =>
    obtain ⟨k, hk, rfl, rfl, hB, p0, p1, hz⟩ := hrel
    have hle := cntC_le (a, b) (xs.take k)
    rw [List.length_take] at hle
    by_cases hlt : k < xs.length
    · obtain rfl := HA.out (by omega)
      obtain ⟨x, y, hxy⟩ : ∃ x y, xs.getD k (0, 0) = (x, y) := ⟨_, _, rfl⟩
      have cx : wr.cell? ⟨g1, k * 2, none⟩ = _ := (hB.cell (p := ⟨g1, k * 2, none⟩) (World.block_lt_of_cell? w _ (X.out k hlt))).trans (X.out k hlt)
      have cy : wr.cell? ⟨g1, k * 2 + 1, none⟩ = _ := (hB.cell (p := ⟨g1, k * 2 + 1, none⟩) (World.block_lt_of_cell? w _ (Y.out k hlt))).trans (Y.out k hlt)
      rw [hxy] at cx cy
      simp only at cx cy
      have hs := cntC_take (a, b) xs k hlt
      rw [hxy, show crossP (a, b) (x, y) = crossB a b x y from rfl] at hs
      obtain ⟨m, hm⟩ : ∃ m, m = cntC (a, b) (xs.take k) := ⟨_, rfl⟩
      rw [← hm] at hle hs ⊢
      clear hm hxy
      cases hcr : crossB a b x y with
      | true =>
        rw [hcr, if_pos rfl] at hs
        have HS := Lib.hid hs
        have HCR := Lib.hid hcr
        clear hs hcr
        go_wp2_with (first | (go_at_call 82; (with_reducible refine (areInTurn_any a b x y _).mono ?_); rintro e w1 ⟨rfl, hb⟩; rw [HCR.out]; (have hB1 : Below w.heap.size w w1 := by (refine Below.trans ?_ (hb.mono (by first | omega | (simp; omega))); go_grown)); (have d0 := cellB hb (b := w.heap.size) (o := 0) (x := .int .i64 a) (by go_simp)); (have d1 := cellB hb (b := w.heap.size) (o := 1) (x := .int .i64 b) (by go_simp)); (have hz1 : w.heap.size < w1.heap.size := by have := hb.size; (try simp at this); omega)))
        go_roundw
        case rel => exact ⟨k + 1, by omega, by go_num, by rw [HS.out]; go_num, hB1, d0, d1, hz1⟩
        case measure => simp [intOf]; omega
      | false =>
        rw [hcr] at hs
        have HS := Lib.hid hs
        have HCR := Lib.hid hcr
        clear hs hcr
        go_wp2_with (first | (go_at_call 82; (with_reducible refine (areInTurn_any a b x y _).mono ?_); rintro e w1 ⟨rfl, hb⟩; rw [HCR.out]; (have hB1 : Below w.heap.size w w1 := by (refine Below.trans ?_ (hb.mono (by first | omega | (simp; omega))); go_grown)); (have d0 := cellB hb (b := w.heap.size) (o := 0) (x := .int .i64 a) (by go_simp)); (have d1 := cellB hb (b := w.heap.size) (o := 1) (x := .int .i64 b) (by go_simp)); (have hz1 : w.heap.size < w1.heap.size := by have := hb.size; (try simp at this); omega)))
        go_roundw
        case rel => exact ⟨k + 1, by omega, by go_num, by rw [HS.out]; simp, hB1, d0, d1, hz1⟩
        case measure => simp [intOf]; omega
    · obtain rfl : k = xs.length := by omega
      rw [List.take_length]
      go_wp2
      go_ret
      exact ⟨rfl, hB⟩

/-- The best chord of the first so many, and how many it crosses: of the model. -/
def mostS (xs : List (Int × Int)) : Nat → Nat × Int
  | 0 => (0, -1)
  | k + 1 => if (mostS xs k).2 < (cntC (xs.getD k (0, 0)) xs : Int) then (k, (cntC (xs.getD k (0, 0)) xs : Int)) else mostS xs k

/-- The same of the program. -/
def mostI (xs : List (Int × Int)) : Nat → Nat × Int
  | 0 => (0, 0)
  | k + 1 => if (mostI xs k).2 < (cntC (xs.getD k (0, 0)) xs : Int) then (k, (cntC (xs.getD k (0, 0)) xs : Int)) else mostI xs k

theorem mostI_yes (xs : List (Int × Int)) (k : Nat) (h : (mostI xs k).2 < (cntC (xs.getD k (0, 0)) xs : Int)) : mostI xs (k + 1) = (k, (cntC (xs.getD k (0, 0)) xs : Int)) := by rw [mostI, if_pos h]
theorem mostI_no (xs : List (Int × Int)) (k : Nat) (h : ¬ (mostI xs k).2 < (cntC (xs.getD k (0, 0)) xs : Int)) : mostI xs (k + 1) = mostI xs k := by rw [mostI, if_neg h]
theorem mostS_yes (xs : List (Int × Int)) (k : Nat) (h : (mostS xs k).2 < (cntC (xs.getD k (0, 0)) xs : Int)) : mostS xs (k + 1) = (k, (cntC (xs.getD k (0, 0)) xs : Int)) := by rw [mostS, if_pos h]
theorem mostS_no (xs : List (Int × Int)) (k : Nat) (h : ¬ (mostS xs k).2 < (cntC (xs.getD k (0, 0)) xs : Int)) : mostS xs (k + 1) = mostS xs k := by rw [mostS, if_neg h]

theorem most_same (xs : List (Int × Int)) (k : Nat) : mostI xs (k + 1) = mostS xs (k + 1) := by
  induction k with
  | zero =>
    by_cases h : (0 : Int) < (cntC (xs.getD 0 (0, 0)) xs : Int)
    · rw [mostI_yes xs 0 h, mostS_yes xs 0 (show (-1 : Int) < _ by omega)]
    · rw [mostI_no xs 0 h, mostS_yes xs 0 (show (-1 : Int) < _ by omega)]
      have e : cntC (xs.getD 0 (0, 0)) xs = 0 := by omega
      rw [e]
      rfl
  | succ k ih => rw [mostI, ih]; conv => rhs; rw [mostS]

theorem mostS_le (xs : List (Int × Int)) (k : Nat) : (mostS xs k).1 ≤ k ∧ -1 ≤ (mostS xs k).2 ∧ (mostS xs k).2 ≤ xs.length := by
  induction k with
  | zero => simp [mostS]
  | succ k ih =>
    have := cntC_le (xs.getD k (0, 0)) xs
    rw [mostS]
    split
    · simp only; omega
    · omega

theorem mostI_le (xs : List (Int × Int)) (k : Nat) : (mostI xs k).1 ≤ k ∧ 0 ≤ (mostI xs k).2 ∧ (mostI xs k).2 ≤ xs.length := by
  induction k with
  | zero => simp [mostI]
  | succ k ih =>
    have := cntC_le (xs.getD k (0, 0)) xs
    rw [mostI]
    split
    · simp only; omega
    · omega

end Go.Proofs.Ytnldnjgnpdicnaa
