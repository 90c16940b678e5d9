/- RegionOfArc: the program. -/
import Derived.Test.YtmfbbbnenngehabRN
namespace Go.Proofs.Ytmfbbbnenngehab
open Go.RowKit
set_option linter.unusedVariables false

set_option maxHeartbeats 400000 in
theorem arcFn_any (n : Nat) (a0 : Option Addr) (cap : Nat) (xs : List (Int × Int)) (B T : Nat) (w : World) (h : PairsIn 47 w B T (.slice a0 xs.length cap) xs) (hT : T ≤ w.heap.size) (i gi : Nat) (hi : i < n) (hg : goodC n xs) (hpl : allP xs xs.length = []) (hc : w.cell? ⟨gi, 0, none⟩ = some (.int .i64 (i : Int))) (v : Int) (hv : ((arcR xs (regL n xs) (arcC n i) : Nat) : Int) = v) :
    Calls Try.prog 45 #[.agg #[.int .i64 n, .slice a0 xs.length cap], .pointer (some ⟨gi, 0, none⟩)] w fun e w' => e = .returned (.int .i64 v) ∧ Below w.heap.size w w' := by
  subst hv
  have z0 : (w.alloc (.cells #[.int .i64 n, .slice a0 xs.length cap] 54)).cell? ⟨gi, 0, none⟩ = some (.int .i64 (i : Int)) := cellB (by go_grown) hc
  have hgi := World.block_lt_of_cell? w _ hc
  simp only at hgi
  go_enter Try.func45, Try.ntmps45
  go_wp2_with (first | (go_at_call 46; (with_reducible refine (regionAt_any n _ _ xs B T _ (h.keep (belowSame (by go_grown) hT)) (Nat.le_trans hT (by first | (simp; done) | (simp; omega))) i hi hg hpl).mono ?_); rintro e w1 ⟨rfl, hb1⟩))
  go_ret
  exact ⟨rfl, Below.trans (by go_grown) (hb1.mono (by first | omega | (simp; done) | (simp; omega)))⟩

set_option maxHeartbeats 400000 in
theorem told_arc (n : Nat) (a0 : Option Addr) (cap : Nat) (xs : List (Int × Int)) (B T : Nat) (w : World) (h : PairsIn 47 w B T (.slice a0 xs.length cap) xs) (hT : T ≤ w.heap.size) (i gi : Nat) (hi : i < n) (hg : goodC n xs) (hpl : allP xs xs.length = []) (hc : w.cell? ⟨gi, 0, none⟩ = some (.int .i64 (i : Int))) (v : Int) (hv : ((arcR xs (regL n xs) (arcC n i) : Nat) : Int) = v) :
    Calls Try.prog 44 #[.int .i64 n, .slice a0 xs.length cap, .func (.func 36) #[] #[], .func (.func 45) #[] #[.pointer (some ⟨gi, 0, none⟩)]] w fun e w' => e = .returned (.tuple #[.int .i64 v, .bool true]) ∧ Below w.heap.size w w' := by
  have HS := Lib.hid (plane_yes (p := n) hpl)
  go_enter Try.func44, Try.ntmps44
  go_wp2_with (first | (go_at_call 36; (refine (isPlaneD_yes n _ _ xs B T _ (h.keep (belowSame (by go_grown) hT)) (Nat.le_trans hT (by first | (simp; done) | (simp; omega))) hg).mono ?_); rw [HS.out]; rintro e w1 ⟨rfl, hb1⟩; (have c0 : w1.cell? ⟨w.heap.size, 0, none⟩ = some (.int .i64 n) := cellB hb1 (by go_simp)); (have c1 : w1.cell? ⟨w.heap.size, 1, none⟩ = some (.slice a0 xs.length cap) := cellB hb1 (by go_simp)); (have hB1 : Below w.heap.size w w1 := Below.trans (by go_grown) (hb1.mono (by first | omega | (simp; done) | (simp; omega)))); have hz1 := hB1.size) | (go_at_call 45; (with_reducible refine (arcFn_any n _ _ xs B T _ (h.keep (belowSame hB1 hT)) (by omega) i gi hi hg hpl (cellB hB1 hc) v hv).mono ?_); rintro e w2 ⟨rfl, hb2⟩))
  go_ret2
  exact ⟨rfl, hB1.trans (hb2.mono hz1)⟩

set_option maxHeartbeats 400000 in
theorem told_int_not (p : Int) (a0 : Option Addr) (cap : Nat) (xs : List (Int × Int)) (B T : Nat) (w : World) (h : PairsIn 47 w B T (.slice a0 xs.length cap) xs) (hT : T ≤ w.heap.size) (f : Value) (hg : goodC p xs) (hpl : ¬ allP xs xs.length = []) : Calls Try.prog 44 #[.int .i64 p, .slice a0 xs.length cap, .func (.func 36) #[] #[], f] w fun e w' => e = .returned (.tuple #[.int .i64 0, .bool false]) ∧ Below w.heap.size w w' := by
  have HS := Lib.hid (plane_no (p := p) hpl)
  go_enter Try.func44, Try.ntmps44
  go_wp2_with (first | (go_at_call 36; (refine (isPlaneD_yes p _ _ xs B T _ (h.keep (belowSame (by go_grown) hT)) (Nat.le_trans hT (by first | (simp; done) | (simp; omega))) hg).mono ?_); rw [HS.out]; rintro e w1 ⟨rfl, hb1⟩))
  go_ret2
  exact ⟨rfl, Below.trans (by go_grown) (hb1.mono (by first | omega | (simp; done) | (simp; omega)))⟩

set_option maxHeartbeats 400000 in
theorem iArc_yes (n : Nat) (a0 : Option Addr) (cap : Nat) (xs : List (Int × Int)) (B T : Nat) (w : World) (h : PairsIn 47 w B T (.slice a0 xs.length cap) xs) (hT : T ≤ w.heap.size) (i : Nat) (hi : i < n) (hg : goodC n xs) (hpl : allP xs xs.length = []) (v : Int) (hv : ((arcR xs (regL n xs) (arcC n i) : Nat) : Int) = v) :
    Calls Try.prog 24 #[.int .i64 n, .slice a0 xs.length cap, .int .i64 (i : Int)] w fun e w' => e = .returned (.tuple #[.int .i64 v, .bool true]) ∧ Below w.heap.size w w' := by
  go_enter Try.func24, Try.ntmps24
  go_wp2_with (first | (go_at_call 43; (with_reducible refine (isPoint_yes n i _ (by omega)).mono ?_); rintro e w1 ⟨rfl, rfl⟩) | (go_at_call 44; (with_reducible refine (told_arc n _ _ xs B T _ (h.keep (belowSame (by go_grown) hT)) (Nat.le_trans hT (by first | (simp; done) | (simp; omega))) i w.heap.size hi hg hpl (by go_simp) v hv).mono ?_); rintro e w1 ⟨rfl, hb1⟩))
  go_ret2
  exact ⟨rfl, Below.trans (by go_grown) (hb1.mono (by first | omega | (simp; done) | (simp; omega)))⟩

set_option maxHeartbeats 400000 in
theorem iArc_no (p : Int) (a0 : Option Addr) (cap : Nat) (xs : List (Int × Int)) (B T : Nat) (w : World) (h : PairsIn 47 w B T (.slice a0 xs.length cap) xs) (hT : T ≤ w.heap.size) (i : Int) (hg : ¬ (0 ≤ i ∧ i < p ∧ goodC p xs ∧ allP xs xs.length = [])) :
    Calls Try.prog 24 #[.int .i64 p, .slice a0 xs.length cap, .int .i64 i] w fun e w' => e = .returned (.tuple #[.int .i64 0, .bool false]) ∧ Below w.heap.size w w' := by
  by_cases hi : 0 ≤ i ∧ i < p
  · by_cases hg2 : goodC p xs
    · have hpl : ¬ allP xs xs.length = [] := fun e => hg ⟨hi.1, hi.2, hg2, e⟩
      clear hg
      go_enter Try.func24, Try.ntmps24
      go_wp2_with (first | (go_at_call 43; (with_reducible refine (isPoint_yes p i _ hi).mono ?_); rintro e w1 ⟨rfl, rfl⟩) | (go_at_call 44; (with_reducible refine (told_int_not p _ _ xs B T _ (h.keep (belowSame (by go_grown) hT)) (Nat.le_trans hT (by first | (simp; done) | (simp; omega))) _ hg2 hpl).mono ?_); rintro e w1 ⟨rfl, hb1⟩))
      go_ret2
      exact ⟨rfl, Below.trans (by go_grown) (hb1.mono (by first | omega | (simp; done) | (simp; omega)))⟩
    · clear hg
      go_enter Try.func24, Try.ntmps24
      go_wp2_with (first | (go_at_call 43; (with_reducible refine (isPoint_yes p i _ hi).mono ?_); rintro e w1 ⟨rfl, rfl⟩) | (go_at_call 44; (with_reducible refine (told_no_int_plane p _ _ xs B T _ (h.keep (belowSame (by go_grown) hT)) (Nat.le_trans hT (by first | (simp; done) | (simp; omega))) _ hg2).mono ?_); rintro e w1 ⟨rfl, hb1⟩))
      go_ret2
      exact ⟨rfl, Below.trans (by go_grown) (hb1.mono (by first | omega | (simp; done) | (simp; omega)))⟩
  · clear hg
    go_enter Try.func24, Try.ntmps24
    go_wp2_with (first | (go_at_call 43; (with_reducible refine (isPoint_no p i _ hi).mono ?_); rintro e w1 ⟨rfl, rfl⟩))
    go_ret2
    exact ⟨rfl, by go_grown⟩
end Go.Proofs.Ytmfbbbnenngehab
