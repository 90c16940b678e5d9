/- How many chords cross a chord; the chord that crosses the most. -/
import Derived.Test.YtenkokkhdcjcaaaK7
namespace Go.Proofs.Ytenkokkhdcjcaaa
open Go.RowKit
set_option linter.unusedVariables false

set_option maxHeartbeats 600000 in
theorem countCrossing_any (u : Value) (xs : List (Int × Int)) (a b : Int) (B T : Nat) (w : World) (h : PairsIn 50 w B T u xs) (hn : xs.length ≤ 1000000) :
    Calls Try.prog 60 #[u, .agg #[.int .i64 a, .int .i64 b]] w fun e w' => e = .returned (.int .i64 (cntC (a, b) xs : Nat)) ∧ Below w.heap.size w w' := by
  obtain ⟨a1, c1, g1, rfl, ha1, hmm, hx1, hy1⟩ := h.pairs.view
  have X := Lib.hid hx1
  have Y := Lib.hid hy1
  have HA := Lib.hid ha1
  clear h ha1 hx1 hy1 hmm
  go_enter Try.func60, Try.ntmps60
  go_wp2
  go_loopw [5, 10] (fun c i wr => ∃ k : Nat, k ≤ xs.length ∧ i = .int .i64 k ∧ c = .int .i64 (cntC (a, b) (xs.take k) : Nat) ∧ Below w.heap.size w wr ∧ wr.cell? ⟨w.heap.size, 0, none⟩ = some (.int .i64 a) ∧ wr.cell? ⟨w.heap.size, 1, none⟩ = some (.int .i64 b) ∧ w.heap.size < wr.heap.size) (fun _ i _ => xs.length - (intOf i).toNat)
  case atStart => exact ⟨0, by omega, rfl, by simp [cntC], by go_grown, by go_simp, by go_simp, by simp⟩
  case round =>
    obtain ⟨k, hk, rfl, rfl, hB, p0, p1, hz⟩ := hrel
    have hle := cntC_le (a, b) (xs.take k)
    rw [List.length_take] at hle
    by_cases hlt : k < xs.length
    · obtain rfl := HA.out (by omega)
      obtain ⟨x, y, hxy⟩ : ∃ x y, xs.getD k (0, 0) = (x, y) := ⟨_, _, rfl⟩
      have cx : wr.cell? ⟨g1, k * 2, none⟩ = _ := (hB.cell (p := ⟨g1, k * 2, none⟩) (World.block_lt_of_cell? w _ (X.out k hlt))).trans (X.out k hlt)
      have cy : wr.cell? ⟨g1, k * 2 + 1, none⟩ = _ := (hB.cell (p := ⟨g1, k * 2 + 1, none⟩) (World.block_lt_of_cell? w _ (Y.out k hlt))).trans (Y.out k hlt)
      rw [hxy] at cx cy
      simp only at cx cy
      have hs := cntC_take (a, b) xs k hlt
      rw [hxy, show crossP (a, b) (x, y) = crossB a b x y from rfl] at hs
      obtain ⟨m, hm⟩ : ∃ m, m = cntC (a, b) (xs.take k) := ⟨_, rfl⟩
      rw [← hm] at hle hs ⊢
      clear hm hxy
      cases hcr : crossB a b x y with
      | true =>
        rw [hcr, if_pos rfl] at hs
        have HS := Lib.hid hs
        have HCR := Lib.hid hcr
        clear hs hcr
        go_wp2_with (first | (go_at_call 80; (with_reducible refine (areInTurn_any a b x y _).mono ?_); rintro e w1 ⟨rfl, hb⟩; rw [HCR.out]; (have hB1 : Below w.heap.size w w1 := by (refine Below.trans ?_ (hb.mono (by first | omega | (simp; omega))); go_grown)); (have d0 := cellB hb (b := w.heap.size) (o := 0) (x := .int .i64 a) (by go_simp)); (have d1 := cellB hb (b := w.heap.size) (o := 1) (x := .int .i64 b) (by go_simp)); (have hz1 : w.heap.size < w1.heap.size := by have := hb.size; (try simp at this); omega)))
        go_roundw
        case rel => exact ⟨k + 1, by omega, by go_num, by rw [HS.out]; go_num, hB1, d0, d1, hz1⟩
        case measure => simp [intOf]; omega
      | false =>
        rw [hcr] at hs
        have HS := Lib.hid hs
        have HCR := Lib.hid hcr
        clear hs hcr
        go_wp2_with (first | (go_at_call 80; (with_reducible refine (areInTurn_any a b x y _).mono ?_); rintro e w1 ⟨rfl, hb⟩; rw [HCR.out]; (have hB1 : Below w.heap.size w w1 := by (refine Below.trans ?_ (hb.mono (by first | omega | (simp; omega))); go_grown)); (have d0 := cellB hb (b := w.heap.size) (o := 0) (x := .int .i64 a) (by go_simp)); (have d1 := cellB hb (b := w.heap.size) (o := 1) (x := .int .i64 b) (by go_simp)); (have hz1 : w.heap.size < w1.heap.size := by have := hb.size; (try simp at this); omega)))
        go_roundw
        case rel => exact ⟨k + 1, by omega, by go_num, by rw [HS.out]; simp, hB1, d0, d1, hz1⟩
        case measure => simp [intOf]; omega
    · obtain rfl : k = xs.length := by omega
      rw [List.take_length]
      go_wp2
      go_ret
      exact ⟨rfl, hB⟩

/-- The best chord of the first so many, and how many it crosses: of the model. -/
def mostS (xs : List (Int × Int)) : Nat → Nat × Int
  | 0 => (0, -1)
  | k + 1 => if (mostS xs k).2 < (cntC (xs.getD k (0, 0)) xs : Int) then (k, (cntC (xs.getD k (0, 0)) xs : Int)) else mostS xs k

/-- The same of the program. -/
def mostI (xs : List (Int × Int)) : Nat → Nat × Int
  | 0 => (0, 0)
  | k + 1 => if (mostI xs k).2 < (cntC (xs.getD k (0, 0)) xs : Int) then (k, (cntC (xs.getD k (0, 0)) xs : Int)) else mostI xs k

theorem mostI_yes (xs : List (Int × Int)) (k : Nat) (h : (mostI xs k).2 < (cntC (xs.getD k (0, 0)) xs : Int)) : mostI xs (k + 1) = (k, (cntC (xs.getD k (0, 0)) xs : Int)) := by rw [mostI, if_pos h]
theorem mostI_no (xs : List (Int × Int)) (k : Nat) (h : ¬ (mostI xs k).2 < (cntC (xs.getD k (0, 0)) xs : Int)) : mostI xs (k + 1) = mostI xs k := by rw [mostI, if_neg h]
theorem mostS_yes (xs : List (Int × Int)) (k : Nat) (h : (mostS xs k).2 < (cntC (xs.getD k (0, 0)) xs : Int)) : mostS xs (k + 1) = (k, (cntC (xs.getD k (0, 0)) xs : Int)) := by rw [mostS, if_pos h]
theorem mostS_no (xs : List (Int × Int)) (k : Nat) (h : ¬ (mostS xs k).2 < (cntC (xs.getD k (0, 0)) xs : Int)) : mostS xs (k + 1) = mostS xs k := by rw [mostS, if_neg h]

theorem most_same (xs : List (Int × Int)) (k : Nat) : mostI xs (k + 1) = mostS xs (k + 1) := by
  induction k with
  | zero =>
    by_cases h : (0 : Int) < (cntC (xs.getD 0 (0, 0)) xs : Int)
    · rw [mostI_yes xs 0 h, mostS_yes xs 0 (show (-1 : Int) < _ by omega)]
    · rw [mostI_no xs 0 h, mostS_yes xs 0 (show (-1 : Int) < _ by omega)]
      have e : cntC (xs.getD 0 (0, 0)) xs = 0 := by omega
      rw [e]
      rfl
  | succ k ih => rw [mostI, ih]; conv => rhs; rw [mostS]

theorem mostS_le (xs : List (Int × Int)) (k : Nat) : (mostS xs k).1 ≤ k ∧ -1 ≤ (mostS xs k).2 ∧ (mostS xs k).2 ≤ xs.length := by
  induction k with
  | zero => simp [mostS]
  | succ k ih =>
    have := cntC_le (xs.getD k (0, 0)) xs
    rw [mostS]
    split
    · simp only; omega
    · omega

theorem mostI_le (xs : List (Int × Int)) (k : Nat) : (mostI xs k).1 ≤ k ∧ 0 ≤ (mostI xs k).2 ∧ (mostI xs k).2 ≤ xs.length := by
  induction k with
  | zero => simp [mostI]
  | succ k ih =>
    have := cntC_le (xs.getD k (0, 0)) xs
    rw [mostI]
    split
    · simp only; omega
    · omega


set_option maxHeartbeats 800000 in
theorem iMostCrossed_yes (p : Int) (u : Value) (xs : List (Int × Int)) (B T : Nat) (w : World) (h : PairsIn 50 w B T u xs) (hT : T ≤ w.heap.size) (hg : goodC p xs) (h0 : 0 < xs.length) :
    Calls Try.prog 31 #[.int .i64 p, u] w fun e w' => e = .returned (.tuple #[.int .i64 ((mostS xs xs.length).1 : Nat), .bool true]) ∧ Below w.heap.size w w' := by
  have hl := hg.2.1
  have hh := h
  have HH := Lib.hid hh
  have HG := Lib.hid hg
  obtain ⟨a1, c1, g1, rfl, ha1, hmm, hx1, hy1⟩ := h.pairs.view
  obtain rfl := ha1 h0
  have X := Lib.hid hx1
  have Y := Lib.hid hy1
  have HL := Lib.hid (show (mostI xs xs.length).1 = (mostS xs xs.length).1 by
    obtain ⟨k, hk⟩ : ∃ k, xs.length = k + 1 := ⟨xs.length - 1, by omega⟩
    rw [hk, most_same])
  clear h ha1 hx1 hy1 hmm hh hg
  have hne : ((xs.length : Int) == 0) = false := beq_eq_false_iff_ne.2 (by omega)
  go_enter Try.func31, Try.ntmps31
  go_wp2_with (first | (go_at_call 18; (with_reducible refine (AreChords_yes p _ xs B T _ HH.out HG.out).mono ?_); rintro e w1 ⟨rfl, hb1⟩; have HH1 := Lib.hid (HH.out.keep (belowSame hb1 hT)); have hz1 := hb1.size))
  go_loopw [6, 7, 22] (fun bs ms i wr => ∃ k : Nat, k ≤ xs.length ∧ i = .int .i64 k ∧ bs = .int .i64 ((mostI xs k).1 : Nat) ∧ ms = .int .i64 (mostI xs k).2 ∧ Below w.heap.size w wr ∧ w1.heap.size ≤ wr.heap.size ∧ Below w1.heap.size w1 wr) (fun _ _ i _ => xs.length - (intOf i).toNat)
  case atStart => exact ⟨0, by omega, rfl, rfl, rfl, hb1, by omega, Below.refl _ _⟩
  case round =>
    obtain ⟨k, hk, rfl, rfl, rfl, hB, hz, hB1⟩ := hrel
    have hml := mostI_le xs k
    by_cases hlt : k < xs.length
    · obtain ⟨x, y, hxy⟩ : ∃ x y, xs.getD k (0, 0) = (x, y) := ⟨_, _, rfl⟩
      have cx : wr.cell? ⟨g1, k * 2, none⟩ = _ := (hB.cell (p := ⟨g1, k * 2, none⟩) (World.block_lt_of_cell? w _ (X.out k hlt))).trans (X.out k hlt)
      have cy : wr.cell? ⟨g1, k * 2 + 1, none⟩ = _ := (hB.cell (p := ⟨g1, k * 2 + 1, none⟩) (World.block_lt_of_cell? w _ (Y.out k hlt))).trans (Y.out k hlt)
      rw [hxy] at cx cy
      simp only at cx cy
      have hcl := cntC_le (x, y) xs
      have hy := mostI_yes xs k
      have hn := mostI_no xs k
      rw [hxy] at hy hn
      obtain ⟨ms, hms⟩ : ∃ m, m = (mostI xs k).2 := ⟨_, rfl⟩
      obtain ⟨bs, hbs⟩ : ∃ m, m = (mostI xs k).1 := ⟨_, rfl⟩
      obtain ⟨n, hnn⟩ : ∃ m, m = cntC (x, y) xs := ⟨_, rfl⟩
      rw [← hms] at hml hy hn ⊢
      rw [← hbs] at hml ⊢
      rw [← hnn] at hy hn hcl
      have HY := Lib.hid hy
      have HN := Lib.hid hn
      have HNN := Lib.hid hnn
      have HBS := Lib.hid hbs
      have HMS := Lib.hid hms
      have HHr := Lib.hid (HH1.out.keep (belowSame hB1 (by omega)))
      clear hy hn hnn hbs hms hxy
      go_wp2_with (first | (go_at_call 60; (with_reducible refine (countCrossing_any _ xs x y B T _ (HHr.out.keep (belowSame (by go_grown) (by omega))) (by omega)).mono ?_); rintro e w2 ⟨rfl, hb2⟩; rw [← HNN.out]; (have hB2 : Below w.heap.size w w2 := by (refine Below.trans ?_ (hb2.mono (by first | omega | (simp; omega))); go_grown)); (have hB3 : Below w1.heap.size w1 w2 := by (refine Below.trans ?_ (hb2.mono (by first | omega | (simp; omega))); go_grown)); (have hz2 : w1.heap.size ≤ w2.heap.size := by have := hb2.size; (try simp at this); omega); clear hb2))
      · rename_i hgt
        have hgt' : ms < (n : Int) := by first | exact hgt | simpa using hgt
        go_roundw
        case rel => exact ⟨k + 1, by omega, by go_num, by rw [HY.out (by omega)], by rw [HY.out (by omega)], hB2, hz2, hB3⟩
        case measure => simp [intOf]; omega
      · rename_i hgt
        have hgt' : ¬ ms < (n : Int) := by first | exact hgt | simpa using hgt
        go_roundw
        case rel => exact ⟨k + 1, by omega, by go_num, by rw [HN.out (by omega), HBS.out], by rw [HN.out (by omega), HMS.out], hB2, hz2, hB3⟩
        case measure => simp [intOf]; omega
    · obtain rfl : k = xs.length := by omega
      rw [HL.out]
      go_wp2
      go_ret2
      exact ⟨rfl, hB⟩

set_option maxHeartbeats 400000 in
theorem iMostCrossed_no (p : Int) (u : Value) (xs : List (Int × Int)) (B T : Nat) (w : World) (h : PairsIn 50 w B T u xs) (hg : ¬ (goodC p xs ∧ 0 < xs.length)) :
    Calls Try.prog 31 #[.int .i64 p, u] w fun e w' => e = .returned (.tuple #[.int .i64 0, .bool false]) ∧ Below w.heap.size w w' := by
  have HH := Lib.hid h
  obtain ⟨a1, c1, g1, rfl, _, hm, _⟩ := h.pairs.view
  unfold maxLen at hm
  by_cases hgg : goodC p xs
  · have hl0 : xs.length = 0 := by
      by_cases h0 : 0 < xs.length
      · exact absurd ⟨hgg, h0⟩ hg
      · omega
    have hne : ((xs.length : Int) == 0) = true := by rw [hl0]; rfl
    have HG := Lib.hid hgg
    clear h hg hgg hl0
    go_enter Try.func31, Try.ntmps31
    go_wp2_with (first | (go_at_call 18; (with_reducible refine (AreChords_yes p _ xs B T _ HH.out HG.out).mono ?_); rintro e w1 ⟨rfl, hb1⟩))
    go_ret2
    exact ⟨rfl, hb1⟩
  · have HG := Lib.hid hgg
    clear h hg hgg
    go_enter Try.func31, Try.ntmps31
    go_wp2_with (first | (go_at_call 18; (with_reducible refine (AreChords_no p _ xs B T _ HH.out HG.out).mono ?_); rintro e w1 ⟨rfl, hb1⟩))
    go_ret2
    exact ⟨rfl, hb1⟩

set_option maxHeartbeats 400000 in
theorem sMostCrossed_no (p : Int) (u : Value) (xs : List (Int × Int)) (B T : Nat) (w : World) (h : PairsIn 50 w B T u xs) (hg : ¬ (goodC p xs ∧ 0 < xs.length)) :
    Calls Try.prog 30 #[.int .i64 p, u] w fun e w' => e = .returned (.tuple #[.int .i64 0, .bool false]) ∧ Below w.heap.size w w' := by
  have HH := Lib.hid h
  obtain ⟨a1, c1, g1, rfl, _, hm, _⟩ := h.pairs.view
  unfold maxLen at hm
  by_cases hgg : goodC p xs
  · have hl0 : xs.length = 0 := by
      by_cases h0 : 0 < xs.length
      · exact absurd ⟨hgg, h0⟩ hg
      · omega
    have hne : ((xs.length : Int) == 0) = true := by rw [hl0]; rfl
    have HG := Lib.hid hgg
    clear h hg hgg hl0
    go_enter Try.func30, Try.ntmps30
    go_wp2_with (first | (go_at_call 52; (with_reducible refine (cdGood_yes p _ xs B T _ HH.out HG.out).mono ?_); rintro e w1 ⟨rfl, hb1⟩))
    go_ret2
    exact ⟨rfl, hb1⟩
  · have HG := Lib.hid hgg
    clear h hg hgg
    go_enter Try.func30, Try.ntmps30
    go_wp2_with (first | (go_at_call 52; (with_reducible refine (cdGood_no p _ xs B T _ HH.out HG.out).mono ?_); rintro e w1 ⟨rfl, hb1⟩))
    go_ret2
    exact ⟨rfl, hb1⟩

set_option maxHeartbeats 1000000 in
theorem sMostCrossed_yes (p : Int) (u : Value) (xs : List (Int × Int)) (B T : Nat) (w : World) (h : PairsIn 50 w B T u xs) (hT : T ≤ w.heap.size) (hg : goodC p xs) (h0 : 0 < xs.length) :
    Calls Try.prog 30 #[.int .i64 p, u] w fun e w' => e = .returned (.tuple #[.int .i64 ((mostS xs xs.length).1 : Nat), .bool true]) ∧ Below w.heap.size w w' := by
  have hl := hg.2.1
  have hh := h
  have HH := Lib.hid hh
  have HG := Lib.hid hg
  have HO := Lib.hid (chord_order hg)
  obtain ⟨a1, c1, g1, rfl, ha1, hmm, hx1, hy1⟩ := h.pairs.view
  obtain rfl := ha1 h0
  have X := Lib.hid hx1
  have Y := Lib.hid hy1
  clear h ha1 hx1 hy1 hmm hh hg
  have hne : ((xs.length : Int) == 0) = false := beq_eq_false_iff_ne.2 (by omega)
  go_enter Try.func30, Try.ntmps30
  go_wp2_with (first | (go_at_call 52; (with_reducible refine (cdGood_yes p _ xs B T _ HH.out HG.out).mono ?_); rintro e w1 ⟨rfl, hb1⟩; have hz1 := hb1.size))
  go_loopw [6, 7, 24] (fun bs ms i wr => ∃ k : Nat, k ≤ xs.length ∧ i = .int .i64 k ∧ bs = .int .i64 ((mostS xs k).1 : Nat) ∧ ms = .int .i64 (mostS xs k).2 ∧ Below w.heap.size w wr) (fun _ _ i _ => xs.length - (intOf i).toNat)
  case atStart => exact ⟨0, by omega, rfl, rfl, rfl, hb1⟩
  case round =>
    obtain ⟨wo, rfl⟩ : ∃ z, z = wr := ⟨wr, rfl⟩
    obtain ⟨k, hk, rfl, rfl, rfl, hB⟩ := hrel
    have hml := mostS_le xs k
    have hz := hB.size
    by_cases hlt : k < xs.length
    · obtain ⟨x, y, hxy⟩ : ∃ x y, xs.getD k (0, 0) = (x, y) := ⟨_, _, rfl⟩
      have cx : wo.cell? ⟨g1, k * 2, none⟩ = _ := (hB.cell (p := ⟨g1, k * 2, none⟩) (World.block_lt_of_cell? w _ (X.out k hlt))).trans (X.out k hlt)
      have cy : wo.cell? ⟨g1, k * 2 + 1, none⟩ = _ := (hB.cell (p := ⟨g1, k * 2 + 1, none⟩) (World.block_lt_of_cell? w _ (Y.out k hlt))).trans (Y.out k hlt)
      rw [hxy] at cx cy
      simp only at cx cy
      have hord := HO.out k hlt
      rw [hxy] at hord
      have HORD := Lib.hid hord
      have hcl := cntC_le (x, y) xs
      have hy := mostS_yes xs k
      have hn := mostS_no xs k
      rw [hxy] at hy hn
      obtain ⟨ms, hms⟩ : ∃ m, m = (mostS xs k).2 := ⟨_, rfl⟩
      obtain ⟨bs, hbs⟩ : ∃ m, m = (mostS xs k).1 := ⟨_, rfl⟩
      obtain ⟨n, hnn⟩ : ∃ m, m = cntC (x, y) xs := ⟨_, rfl⟩
      rw [← hms] at hml hy hn ⊢
      rw [← hbs] at hml ⊢
      rw [← hnn] at hy hn hcl
      have HY := Lib.hid hy
      have HN := Lib.hid hn
      have HNN := Lib.hid hnn
      have HBS := Lib.hid hbs
      have HMS := Lib.hid hms
      clear hy hn hnn hbs hms hxy hord
      go_wp2
      go_loopw [10, 31] (fun c i wr => ∃ j : Nat, j ≤ xs.length ∧ i = .int .i64 j ∧ c = .int .i64 (cntC (x, y) (xs.take j) : Nat) ∧ Below w.heap.size w wr ∧ wr.cell? ⟨wo.heap.size, 0, none⟩ = some (.int .i64 x) ∧ wr.cell? ⟨wo.heap.size, 1, none⟩ = some (.int .i64 y) ∧ wo.heap.size < wr.heap.size) (fun _ i _ => xs.length - (intOf i).toNat)
      case atStart => exact ⟨0, by omega, rfl, by simp [cntC], by go_grown, by go_simp, by go_simp, by simp⟩
      case round =>
        obtain ⟨j, hj, rfl, rfl, hBj, p0, p1, hzj⟩ := hrel
        have hle := cntC_le (x, y) (xs.take j)
        rw [List.length_take] at hle
        by_cases hjl : j < xs.length
        · obtain ⟨x2, y2, hxy2⟩ : ∃ x y, xs.getD j (0, 0) = (x, y) := ⟨_, _, rfl⟩
          have dx : wr.cell? ⟨g1, j * 2, none⟩ = _ := (hBj.cell (p := ⟨g1, j * 2, none⟩) (World.block_lt_of_cell? w _ (X.out j hjl))).trans (X.out j hjl)
          have dy : wr.cell? ⟨g1, j * 2 + 1, none⟩ = _ := (hBj.cell (p := ⟨g1, j * 2 + 1, none⟩) (World.block_lt_of_cell? w _ (Y.out j hjl))).trans (Y.out j hjl)
          have hord2 := HO.out j hjl
          rw [hxy2] at dx dy hord2
          simp only at dx dy
          have HORD2 := Lib.hid hord2
          have hs := cntC_take (x, y) xs j hjl
          rw [hxy2, show crossP (x, y) (x2, y2) = crossB x y x2 y2 from rfl] at hs
          obtain ⟨m, hm⟩ : ∃ m, m = cntC (x, y) (xs.take j) := ⟨_, rfl⟩
          rw [← hm] at hle hs ⊢
          clear hm hxy2 hord2 cx cy
          cases hcr : crossB x y x2 y2 with
          | true =>
            rw [hcr, if_pos rfl] at hs
            have HS := Lib.hid hs
            have HCR := Lib.hid hcr
            clear hs hcr
            go_wp2_with (first | (go_at_call 59; (with_reducible refine (srCross_any x y x2 y2 _ HORD.out HORD2.out).mono ?_); rintro e w2 ⟨rfl, hb⟩; rw [HCR.out]; (have hB1 : Below w.heap.size w w2 := by (refine Below.trans ?_ (hb.mono (by first | omega | (simp; omega))); go_grown)); (have d0 := cellB hb (b := wo.heap.size) (o := 0) (x := .int .i64 x) (by go_simp)); (have d1 := cellB hb (b := wo.heap.size) (o := 1) (x := .int .i64 y) (by go_simp)); (have hz1' : wo.heap.size < w2.heap.size := by have := hb.size; (try simp at this); omega)))
            go_roundw
            case rel => exact ⟨j + 1, by omega, by go_num, by rw [HS.out]; go_num, hB1, d0, d1, hz1'⟩
            case measure => simp [intOf]; omega
          | false =>
            rw [hcr] at hs
            have HS := Lib.hid hs
            have HCR := Lib.hid hcr
            clear hs hcr
            go_wp2_with (first | (go_at_call 59; (with_reducible refine (srCross_any x y x2 y2 _ HORD.out HORD2.out).mono ?_); rintro e w2 ⟨rfl, hb⟩; rw [HCR.out]; (have hB1 : Below w.heap.size w w2 := by (refine Below.trans ?_ (hb.mono (by first | omega | (simp; omega))); go_grown)); (have d0 := cellB hb (b := wo.heap.size) (o := 0) (x := .int .i64 x) (by go_simp)); (have d1 := cellB hb (b := wo.heap.size) (o := 1) (x := .int .i64 y) (by go_simp)); (have hz1' : wo.heap.size < w2.heap.size := by have := hb.size; (try simp at this); omega)))
            go_roundw
            case rel => exact ⟨j + 1, by omega, by go_num, by rw [HS.out]; simp, hB1, d0, d1, hz1'⟩
            case measure => simp [intOf]; omega
        · obtain rfl : j = xs.length := by omega
          rw [List.take_length, ← HNN.out]
          go_wp2
          · rename_i hgt
            go_roundw
            case rel => exact ⟨k + 1, by omega, by go_num, by rw [HY.out (by omega)], by rw [HY.out (by omega)], hBj⟩
            case measure => simp [intOf]; omega
          · rename_i hgt
            go_roundw
            case rel => exact ⟨k + 1, by omega, by go_num, by rw [HN.out (by omega), HBS.out], by rw [HN.out (by omega), HMS.out], hBj⟩
            case measure => simp [intOf]; omega
    · obtain rfl : k = xs.length := by omega
      go_wp2
      go_ret2
      exact ⟨rfl, hB⟩

end Go.Proofs.Ytenkokkhdcjcaaa
