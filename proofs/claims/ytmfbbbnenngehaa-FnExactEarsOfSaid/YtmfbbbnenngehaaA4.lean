/- Regions: how many, and how many pieces; the program and the model. -/
import Derived.Test.YtmfbbbnenngehaaA3
import Derived.Test.YtmfbbbnenngehaaA2
import Derived.Test.YtmfbbbnenngehaaK9
namespace Go.Proofs.Ytmfbbbnenngehaa
open Go.RowKit
set_option linter.unusedVariables false

set_option maxHeartbeats 1000000 in
theorem countRegionsD (p : Int) (a0 : Option Addr) (cap : Nat) (xs : List (Int × Int)) (B T : Nat) (w : World) (h : PairsIn 59 w B T (.slice a0 xs.length cap) xs) (hT : T ≤ w.heap.size) (ho : ∀ k, k < xs.length → (xs.getD k (0, 0)).1 < (xs.getD k (0, 0)).2) (hn : xs.length ≤ 60) :
    Calls Try.prog 50 #[.agg #[.int .i64 p, .slice a0 xs.length cap]] w fun e w' => e = .returned (.int .i64 (1 + (xs.length : Int) + ((allP xs xs.length).length : Int))) ∧ Below w.heap.size w w' := by
  have hs := allP_length xs xs.length
  have hs2 : xs.length * xs.length ≤ 60 * 60 := Nat.mul_le_mul hn hn
  obtain ⟨ps, hps⟩ : ∃ ps, allP xs xs.length = ps := ⟨_, rfl⟩
  rw [hps] at hs ⊢
  have HPS := Lib.hid hps
  clear hps
  have hw1 : IntKind.i64.wrap ((xs.length : Int) + (ps.length : Int)) = (xs.length : Int) + (ps.length : Int) := by rw [IntKind.wrap_i64]; omega
  have hw2 : IntKind.i64.wrap (2 * (ps.length : Int)) = 2 * (ps.length : Int) := by rw [IntKind.wrap_i64]; omega
  have hw3 : IntKind.i64.wrap (1 + (xs.length : Int)) = 1 + (xs.length : Int) := by rw [IntKind.wrap_i64]; omega
  have hw4 : IntKind.i64.wrap (1 + (xs.length : Int) + (ps.length : Int)) = 1 + (xs.length : Int) + (ps.length : Int) := by rw [IntKind.wrap_i64]; omega
  have hw5 : IntKind.i64.wrap ((xs.length : Int) + 2 * (ps.length : Int)) = (xs.length : Int) + 2 * (ps.length : Int) := by rw [IntKind.wrap_i64]; omega
  clear hs hs2
  go_enter Try.func50, Try.ntmps50
  go_wp2
  go_region_held3 (fun w' => w'.cell? ⟨w.heap.size, 0, none⟩ = some (.int .i64 p) ∧ w'.cell? ⟨w.heap.size, 1, none⟩ = some (.slice a0 xs.length cap)) (go_keep)
    (first | (go_at_call 86; refine (pairsCrossing_any _ xs B T _ (h.keep (belowSame (by go_grown) hT)) ho hn).mono ?_; rw [HPS.out]; rintro e w1 ⟨v, rfl, hr, hb⟩; (have c0 : w1.cell? ⟨w.heap.size, 0, none⟩ = some (.int .i64 p) := cellB hb (by go_simp)); (have c1 : w1.cell? ⟨w.heap.size, 1, none⟩ = some (.slice a0 xs.length cap) := cellB hb (by go_simp)); (have hB1 : Below w.heap.size w w1 := Below.trans (by go_grown) (hb.mono (by first | omega | (simp; done) | (simp; omega)))); (obtain ⟨vs, hv⟩ := hr); (obtain ⟨a2, c2, g2, rfl, _, hm2, _⟩ := hv.view); clear hb hv))
  go_wp2
  go_ret
  exact ⟨rfl, hB1⟩

set_option maxHeartbeats 1000000 in
theorem countPiecesD (p : Int) (a0 : Option Addr) (cap : Nat) (xs : List (Int × Int)) (B T : Nat) (w : World) (h : PairsIn 59 w B T (.slice a0 xs.length cap) xs) (hT : T ≤ w.heap.size) (ho : ∀ k, k < xs.length → (xs.getD k (0, 0)).1 < (xs.getD k (0, 0)).2) (hn : xs.length ≤ 60) :
    Calls Try.prog 61 #[.agg #[.int .i64 p, .slice a0 xs.length cap]] w fun e w' => e = .returned (.int .i64 ((xs.length : Int) + 2 * ((allP xs xs.length).length : Int))) ∧ Below w.heap.size w w' := by
  have hs := allP_length xs xs.length
  have hs2 : xs.length * xs.length ≤ 60 * 60 := Nat.mul_le_mul hn hn
  obtain ⟨ps, hps⟩ : ∃ ps, allP xs xs.length = ps := ⟨_, rfl⟩
  rw [hps] at hs ⊢
  have HPS := Lib.hid hps
  clear hps
  have hw1 : IntKind.i64.wrap ((xs.length : Int) + (ps.length : Int)) = (xs.length : Int) + (ps.length : Int) := by rw [IntKind.wrap_i64]; omega
  have hw2 : IntKind.i64.wrap (2 * (ps.length : Int)) = 2 * (ps.length : Int) := by rw [IntKind.wrap_i64]; omega
  have hw3 : IntKind.i64.wrap (1 + (xs.length : Int)) = 1 + (xs.length : Int) := by rw [IntKind.wrap_i64]; omega
  have hw4 : IntKind.i64.wrap (1 + (xs.length : Int) + (ps.length : Int)) = 1 + (xs.length : Int) + (ps.length : Int) := by rw [IntKind.wrap_i64]; omega
  have hw5 : IntKind.i64.wrap ((xs.length : Int) + 2 * (ps.length : Int)) = (xs.length : Int) + 2 * (ps.length : Int) := by rw [IntKind.wrap_i64]; omega
  clear hs hs2
  go_enter Try.func61, Try.ntmps61
  go_wp2
  go_region_held3 (fun w' => w'.cell? ⟨w.heap.size, 0, none⟩ = some (.int .i64 p) ∧ w'.cell? ⟨w.heap.size, 1, none⟩ = some (.slice a0 xs.length cap)) (go_keep)
    (first | (go_at_call 86; refine (pairsCrossing_any _ xs B T _ (h.keep (belowSame (by go_grown) hT)) ho hn).mono ?_; rw [HPS.out]; rintro e w1 ⟨v, rfl, hr, hb⟩; (have c0 : w1.cell? ⟨w.heap.size, 0, none⟩ = some (.int .i64 p) := cellB hb (by go_simp)); (have c1 : w1.cell? ⟨w.heap.size, 1, none⟩ = some (.slice a0 xs.length cap) := cellB hb (by go_simp)); (have hB1 : Below w.heap.size w w1 := Below.trans (by go_grown) (hb.mono (by first | omega | (simp; done) | (simp; omega)))); (obtain ⟨vs, hv⟩ := hr); (obtain ⟨a2, c2, g2, rfl, _, hm2, _⟩ := hv.view); clear hb hv))
  go_wp2
  go_ret
  exact ⟨rfl, hB1⟩

set_option maxHeartbeats 400000 in
theorem told_regions (p : Int) (a0 : Option Addr) (cap : Nat) (xs : List (Int × Int)) (B T : Nat) (w : World) (h : PairsIn 59 w B T (.slice a0 xs.length cap) xs) (hT : T ≤ w.heap.size) (hg : goodC p xs) : Calls Try.prog 48 #[.int .i64 p, .slice a0 xs.length cap, .func (.func 49) #[] #[], .func (.func 50) #[] #[]] w fun e w' => e = .returned (.tuple #[.int .i64 (1 + (xs.length : Int) + ((allP xs xs.length).length : Int)), .bool true]) ∧ Below w.heap.size w w' := by
  have hl := hg.2.1
  have ho := chord_order hg
  go_enter Try.func48, Try.ntmps48
  go_wp2_with (first | (go_at_call 49; (with_reducible refine (isDisc_yes p _ _ xs B T _ (h.keep (belowSame (by go_grown) hT)) (Nat.le_trans hT (by first | (simp; done) | (simp; omega))) hg).mono ?_); rintro e w1 ⟨rfl, hb1⟩; (have c0 : w1.cell? ⟨w.heap.size, 0, none⟩ = some (.int .i64 p) := cellB hb1 (by go_simp)); (have c1 : w1.cell? ⟨w.heap.size, 1, none⟩ = some (.slice a0 xs.length cap) := cellB hb1 (by go_simp)); (have hB1 : Below w.heap.size w w1 := Below.trans (by go_grown) (hb1.mono (by first | omega | (simp; done) | (simp; omega)))); have hz1 := hB1.size) | (go_at_call 50; (with_reducible refine (countRegionsD p _ _ xs B T _ (h.keep (belowSame hB1 hT)) (by omega) ho (by omega)).mono ?_); rintro e w2 ⟨rfl, hb2⟩))
  go_ret2
  exact ⟨rfl, hB1.trans (hb2.mono hz1)⟩

set_option maxHeartbeats 400000 in
theorem iRegionsOf_yes (p : Int) (a0 : Option Addr) (cap : Nat) (xs : List (Int × Int)) (B T : Nat) (w : World) (h : PairsIn 59 w B T (.slice a0 xs.length cap) xs) (hT : T ≤ w.heap.size) (hg : goodC p xs) : Calls Try.prog 17 #[.int .i64 p, .slice a0 xs.length cap] w fun e w' => e = .returned (.tuple #[.int .i64 (1 + (xs.length : Int) + ((allP xs xs.length).length : Int)), .bool true]) ∧ Below w.heap.size w w' := by
  go_enter Try.func17, Try.ntmps17
  go_wp2_with (first | (go_at_call 48; (with_reducible refine (told_regions p _ _ xs B T _ h hT hg).mono ?_); rintro e w1 ⟨rfl, hb1⟩))
  go_ret2
  exact ⟨rfl, hb1⟩

set_option maxHeartbeats 400000 in
theorem iRegionsOf_no (p : Int) (a0 : Option Addr) (cap : Nat) (xs : List (Int × Int)) (B T : Nat) (w : World) (h : PairsIn 59 w B T (.slice a0 xs.length cap) xs) (hT : T ≤ w.heap.size) (hg : ¬ goodC p xs) : Calls Try.prog 17 #[.int .i64 p, .slice a0 xs.length cap] w fun e w' => e = .returned (.tuple #[.int .i64 0, .bool false]) ∧ Below w.heap.size w w' := by
  go_enter Try.func17, Try.ntmps17
  go_wp2_with (first | (go_at_call 48; (with_reducible refine (told_no_int_disc p _ _ xs B T _ h hT _ hg).mono ?_); rintro e w1 ⟨rfl, hb1⟩))
  go_ret2
  exact ⟨rfl, hb1⟩

set_option maxHeartbeats 400000 in
theorem told_pieces (p : Int) (a0 : Option Addr) (cap : Nat) (xs : List (Int × Int)) (B T : Nat) (w : World) (h : PairsIn 59 w B T (.slice a0 xs.length cap) xs) (hT : T ≤ w.heap.size) (hg : goodC p xs) : Calls Try.prog 48 #[.int .i64 p, .slice a0 xs.length cap, .func (.func 49) #[] #[], .func (.func 61) #[] #[]] w fun e w' => e = .returned (.tuple #[.int .i64 ((xs.length : Int) + 2 * ((allP xs xs.length).length : Int)), .bool true]) ∧ Below w.heap.size w w' := by
  have hl := hg.2.1
  have ho := chord_order hg
  go_enter Try.func48, Try.ntmps48
  go_wp2_with (first | (go_at_call 49; (with_reducible refine (isDisc_yes p _ _ xs B T _ (h.keep (belowSame (by go_grown) hT)) (Nat.le_trans hT (by first | (simp; done) | (simp; omega))) hg).mono ?_); rintro e w1 ⟨rfl, hb1⟩; (have c0 : w1.cell? ⟨w.heap.size, 0, none⟩ = some (.int .i64 p) := cellB hb1 (by go_simp)); (have c1 : w1.cell? ⟨w.heap.size, 1, none⟩ = some (.slice a0 xs.length cap) := cellB hb1 (by go_simp)); (have hB1 : Below w.heap.size w w1 := Below.trans (by go_grown) (hb1.mono (by first | omega | (simp; done) | (simp; omega)))); have hz1 := hB1.size) | (go_at_call 61; (with_reducible refine (countPiecesD p _ _ xs B T _ (h.keep (belowSame hB1 hT)) (by omega) ho (by omega)).mono ?_); rintro e w2 ⟨rfl, hb2⟩))
  go_ret2
  exact ⟨rfl, hB1.trans (hb2.mono hz1)⟩

set_option maxHeartbeats 400000 in
theorem iCountPieces_yes (p : Int) (a0 : Option Addr) (cap : Nat) (xs : List (Int × Int)) (B T : Nat) (w : World) (h : PairsIn 59 w B T (.slice a0 xs.length cap) xs) (hT : T ≤ w.heap.size) (hg : goodC p xs) : Calls Try.prog 27 #[.int .i64 p, .slice a0 xs.length cap] w fun e w' => e = .returned (.tuple #[.int .i64 ((xs.length : Int) + 2 * ((allP xs xs.length).length : Int)), .bool true]) ∧ Below w.heap.size w w' := by
  go_enter Try.func27, Try.ntmps27
  go_wp2_with (first | (go_at_call 48; (with_reducible refine (told_pieces p _ _ xs B T _ h hT hg).mono ?_); rintro e w1 ⟨rfl, hb1⟩))
  go_ret2
  exact ⟨rfl, hb1⟩

set_option maxHeartbeats 400000 in
theorem iCountPieces_no (p : Int) (a0 : Option Addr) (cap : Nat) (xs : List (Int × Int)) (B T : Nat) (w : World) (h : PairsIn 59 w B T (.slice a0 xs.length cap) xs) (hT : T ≤ w.heap.size) (hg : ¬ goodC p xs) : Calls Try.prog 27 #[.int .i64 p, .slice a0 xs.length cap] w fun e w' => e = .returned (.tuple #[.int .i64 0, .bool false]) ∧ Below w.heap.size w w' := by
  go_enter Try.func27, Try.ntmps27
  go_wp2_with (first | (go_at_call 48; (with_reducible refine (told_no_int_disc p _ _ xs B T _ h hT _ hg).mono ?_); rintro e w1 ⟨rfl, hb1⟩))
  go_ret2
  exact ⟨rfl, hb1⟩

set_option maxHeartbeats 400000 in
theorem sRegionsOf_yes (p : Int) (u : Value) (xs : List (Int × Int)) (B T : Nat) (w : World) (h : PairsIn 59 w B T u xs) (hT : T ≤ w.heap.size) (hg : goodC p xs) : Calls Try.prog 15 #[.int .i64 p, u] w fun e w' => e = .returned (.tuple #[.int .i64 (1 + (xs.length : Int) + ((allP xs xs.length).length : Int)), .bool true]) ∧ Below w.heap.size w w' := by
  have hl := hg.2.1
  have ho := chord_order hg
  have hs := (pairs_small xs hl).1
  obtain ⟨ps, hps⟩ : ∃ ps, allP xs xs.length = ps := ⟨_, rfl⟩
  rw [hps] at hs ⊢
  have HPS := Lib.hid hps
  clear hps
  have HH := Lib.hid h
  obtain ⟨a0, cap, g0, rfl, _, hm, _⟩ := h.pairs.view
  have hw3 : IntKind.i64.wrap (1 + (xs.length : Int)) = 1 + (xs.length : Int) := by rw [IntKind.wrap_i64]; omega
  have hw4 : IntKind.i64.wrap (1 + (xs.length : Int) + (ps.length : Int)) = 1 + (xs.length : Int) + (ps.length : Int) := by rw [IntKind.wrap_i64]; omega
  go_enter Try.func15, Try.ntmps15
  go_wp2_with (first | (go_at_call 45; (with_reducible refine (cdGood_yes p _ xs B T _ h hg).mono ?_); rintro e w1 ⟨rfl, hb1⟩; have h1 := h.keep (belowSame hb1 hT); have hz1 := hb1.size) | (go_at_call 46; (with_reducible refine (cdPairs_any _ xs B T _ h1 ho (Nat.le_trans hl (by omega))).mono ?_); rw [HPS.out]; rintro e w2 ⟨v, rfl, hr, hb2⟩; (obtain ⟨vs, hv⟩ := hr); (obtain ⟨a2, c2, g2, rfl, _, hm2, _⟩ := hv.view); clear hv))
  go_ret2
  exact ⟨rfl, hb1.trans (hb2.mono hz1)⟩

set_option maxHeartbeats 400000 in
theorem sRegionsOf_no (p : Int) (u : Value) (xs : List (Int × Int)) (B T : Nat) (w : World) (h : PairsIn 59 w B T u xs) (hT : T ≤ w.heap.size) (hg : ¬ goodC p xs) : Calls Try.prog 15 #[.int .i64 p, u] w fun e w' => e = .returned (.tuple #[.int .i64 0, .bool false]) ∧ Below w.heap.size w w' := by
  go_enter Try.func15, Try.ntmps15
  go_wp2_with (first | (go_at_call 45; (with_reducible refine (cdGood_no p u xs B T _ h hg).mono ?_); rintro e w1 ⟨rfl, hb1⟩))
  go_ret2
  exact ⟨rfl, hb1⟩

end Go.Proofs.Ytmfbbbnenngehaa
