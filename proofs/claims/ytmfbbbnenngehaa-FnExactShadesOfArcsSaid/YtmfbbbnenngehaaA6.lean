/- Regions: the laws of RegionsOf, CountPieces, PiecesOfChord, ArcsParted. -/
import Derived.Test.YtmfbbbnenngehaaA5
import Derived.Test.YtmfbbbnenngehaaW2
import Derived.Test.YtmfbbbnenngehaaRows
namespace Go.Proofs.Ytmfbbbnenngehaa
open Go.RowKit
set_option linter.unusedVariables false

set_option maxHeartbeats 1000000 in
theorem piecesFn_any (p : Int) (a0 : Option Addr) (cap : Nat) (xs : List (Int × Int)) (B T : Nat) (w : World) (h : PairsIn 59 w B T (.slice a0 xs.length cap) xs) (hT : T ≤ w.heap.size) (k gk : Nat) (hk : k < xs.length) (hc : w.cell? ⟨gk, 0, none⟩ = some (.int .i64 k)) (hn : xs.length ≤ 1000000) :
    Calls Try.prog 59 #[.agg #[.int .i64 p, .slice a0 xs.length cap], .pointer (some ⟨gk, 0, none⟩)] w fun e w' => e = .returned (.int .i64 (1 + (cntC (xs.getD k (0, 0)) xs : Nat))) ∧ Below w.heap.size w w' := by
  obtain ⟨a1, c1, g1, hv, ha1, hmm, hx1, hy1⟩ := h.pairs.view
  obtain ⟨rfl, _, rfl⟩ : a0 = a1 ∧ xs.length = xs.length ∧ cap = c1 := by simpa using hv
  obtain rfl := ha1 (by omega)
  have hgk := World.block_lt_of_cell? w _ hc
  have hx := hx1 k hk
  have hy := hy1 k hk
  have hg1 := World.block_lt_of_cell? w _ hx
  obtain ⟨a, b, hab⟩ : ∃ a b, xs.getD k (0, 0) = (a, b) := ⟨_, _, rfl⟩
  rw [hab] at hx hy ⊢
  simp only at hx hy hgk hg1
  have hle := cntC_le (a, b) xs
  obtain ⟨m, hm⟩ : ∃ m, cntC (a, b) xs = m := ⟨_, rfl⟩
  rw [hm] at hle ⊢
  have HM := Lib.hid hm
  have HH := Lib.hid h
  have z0 : ((w.alloc (.cells #[.int .i64 p, .slice (some ⟨g1, 0, none⟩) xs.length cap] 66)).cell? ⟨gk, 0, none⟩) = some (.int .i64 k) := cellB (by go_grown) hc
  have z1 : ((w.alloc (.cells #[.int .i64 p, .slice (some ⟨g1, 0, none⟩) xs.length cap] 66)).cell? ⟨g1, k * 2, none⟩) = some (.int .i64 a) := cellB (by go_grown) hx
  have z2 : ((w.alloc (.cells #[.int .i64 p, .slice (some ⟨g1, 0, none⟩) xs.length cap] 66)).cell? ⟨g1, k * 2 + 1, none⟩) = some (.int .i64 b) := cellB (by go_grown) hy
  have k0 : (k : Int) < (xs.length : Int) := by omega
  have k1 : 0 ≤ (k : Int) := by omega
  have hw1 : IntKind.i64.wrap (1 + (m : Int)) = 1 + (m : Int) := by rw [IntKind.wrap_i64]; omega
  clear h ha1 hmm hx1 hy1 hv hm hab
  go_enter Try.func59, Try.ntmps59
  go_wp2
  go_region_held3 (fun w' => w'.cell? ⟨w.heap.size, 0, none⟩ = some (.int .i64 p) ∧ w'.cell? ⟨w.heap.size, 1, none⟩ = some (.slice (some ⟨g1, 0, none⟩) xs.length cap) ∧ w'.cell? ⟨gk, 0, none⟩ = some (.int .i64 k) ∧ w'.cell? ⟨g1, k * 2, none⟩ = some (.int .i64 a) ∧ w'.cell? ⟨g1, k * 2 + 1, none⟩ = some (.int .i64 b)) (go_keep)
    (first | (go_at_call 60; refine (countCrossing_any _ xs a b B T _ (HH.out.keep (belowSame (by go_grown) hT)) hn).mono ?_; rw [HM.out]; rintro e w2 ⟨rfl, hb⟩; (have d0 : w2.cell? ⟨w.heap.size, 0, none⟩ = some (.int .i64 p) := cellB hb (by go_simp)); (have d1 : w2.cell? ⟨w.heap.size, 1, none⟩ = some (.slice (some ⟨g1, 0, none⟩) xs.length cap) := cellB hb (by go_simp)); (have d2 : w2.cell? ⟨gk, 0, none⟩ = some (.int .i64 k) := cellB hb (by go_simp)); (have d3 : w2.cell? ⟨g1, k * 2, none⟩ = some (.int .i64 a) := cellB hb (by go_simp)); (have d4 : w2.cell? ⟨g1, k * 2 + 1, none⟩ = some (.int .i64 b) := cellB hb (by go_simp)); (have hB1 : Below w.heap.size w w2 := Below.trans (by go_grown) (hb.mono (by first | omega | (simp; done) | (simp; omega)))); clear hb))
  go_wp2
  go_ret
  exact ⟨rfl, hB1⟩

set_option maxHeartbeats 400000 in
theorem partedFn_any (p : Int) (a0 : Option Addr) (cap : Nat) (xs : List (Int × Int)) (B T : Nat) (w : World) (h : PairsIn 59 w B T (.slice a0 xs.length cap) xs) (hT : T ≤ w.heap.size) (i j : Int) (gi gj : Nat) (hi : w.cell? ⟨gi, 0, none⟩ = some (.int .i64 i)) (hj : w.cell? ⟨gj, 0, none⟩ = some (.int .i64 j)) (hn : xs.length ≤ 1000000) :
    Calls Try.prog 64 #[.agg #[.int .i64 p, .slice a0 xs.length cap], .pointer (some ⟨gi, 0, none⟩), .pointer (some ⟨gj, 0, none⟩)] w fun e w' => e = .returned (.int .i64 (partedL i j xs : Nat)) ∧ Below w.heap.size w w' := by
  have hgi := World.block_lt_of_cell? w _ hi
  have hgj := World.block_lt_of_cell? w _ hj
  simp only at hgi hgj
  have z0 : ((w.alloc (.cells #[.int .i64 p, .slice a0 xs.length cap] 66)).cell? ⟨gi, 0, none⟩) = some (.int .i64 i) := cellB (by go_grown) hi
  have z1 : ((w.alloc (.cells #[.int .i64 p, .slice a0 xs.length cap] 66)).cell? ⟨gj, 0, none⟩) = some (.int .i64 j) := cellB (by go_grown) hj
  go_enter Try.func64, Try.ntmps64
  go_wp2_with (first | (go_at_call 65; (with_reducible refine (countParting_any p _ _ xs B T _ (h.keep (belowSame (by go_grown) hT)) (Nat.le_trans hT (by first | (simp; done) | (simp; omega))) i j hn).mono ?_); rintro e w1 ⟨rfl, hb1⟩))
  go_ret
  exact ⟨rfl, Below.trans (by go_grown) (hb1.mono (by first | omega | (simp; done) | (simp; omega)))⟩

set_option maxHeartbeats 400000 in
theorem told_pieces1 (p : Int) (a0 : Option Addr) (cap : Nat) (xs : List (Int × Int)) (B T : Nat) (w : World) (h : PairsIn 59 w B T (.slice a0 xs.length cap) xs) (hT : T ≤ w.heap.size) (hg : goodC p xs) (k gk : Nat) (hk : k < xs.length) (hc : w.cell? ⟨gk, 0, none⟩ = some (.int .i64 k)) :
    Calls Try.prog 48 #[.int .i64 p, .slice a0 xs.length cap, .func (.func 49) #[] #[], .func (.func 59) #[] #[.pointer (some ⟨gk, 0, none⟩)]] w fun e w' => e = .returned (.tuple #[.int .i64 (1 + (cntC (xs.getD k (0, 0)) xs : Nat)), .bool true]) ∧ Below w.heap.size w w' := by
  have hl := hg.2.1
  obtain ⟨m, hm⟩ : ∃ m, cntC (xs.getD k (0, 0)) xs = m := ⟨_, rfl⟩
  rw [hm]
  have HM := Lib.hid hm
  clear hm
  go_enter Try.func48, Try.ntmps48
  go_wp2_with (first | (go_at_call 49; (with_reducible refine (isDisc_yes p _ _ xs B T _ (h.keep (belowSame (by go_grown) hT)) (Nat.le_trans hT (by first | (simp; done) | (simp; omega))) hg).mono ?_); rintro e w1 ⟨rfl, hb1⟩; (have c0 : w1.cell? ⟨w.heap.size, 0, none⟩ = some (.int .i64 p) := cellB hb1 (by go_simp)); (have c1 : w1.cell? ⟨w.heap.size, 1, none⟩ = some (.slice a0 xs.length cap) := cellB hb1 (by go_simp)); (have hB1 : Below w.heap.size w w1 := Below.trans (by go_grown) (hb1.mono (by first | omega | (simp; done) | (simp; omega)))); have hz1 := hB1.size) | (go_at_call 59; (with_reducible refine (piecesFn_any p _ _ xs B T _ (h.keep (belowSame hB1 hT)) (by omega) k gk hk (cellB hB1 hc) (by omega)).mono ?_); rw [HM.out]; rintro e w2 ⟨rfl, hb2⟩))
  go_ret2
  exact ⟨rfl, hB1.trans (hb2.mono hz1)⟩

set_option maxHeartbeats 400000 in
theorem told_parted (p : Int) (a0 : Option Addr) (cap : Nat) (xs : List (Int × Int)) (B T : Nat) (w : World) (h : PairsIn 59 w B T (.slice a0 xs.length cap) xs) (hT : T ≤ w.heap.size) (hg : goodC p xs) (i j : Int) (gi gj : Nat) (hi : w.cell? ⟨gi, 0, none⟩ = some (.int .i64 i)) (hj : w.cell? ⟨gj, 0, none⟩ = some (.int .i64 j)) :
    Calls Try.prog 48 #[.int .i64 p, .slice a0 xs.length cap, .func (.func 49) #[] #[], .func (.func 64) #[] #[.pointer (some ⟨gi, 0, none⟩), .pointer (some ⟨gj, 0, none⟩)]] w fun e w' => e = .returned (.tuple #[.int .i64 (partedL i j xs : Nat), .bool true]) ∧ Below w.heap.size w w' := by
  have hl := hg.2.1
  go_enter Try.func48, Try.ntmps48
  go_wp2_with (first | (go_at_call 49; (with_reducible refine (isDisc_yes p _ _ xs B T _ (h.keep (belowSame (by go_grown) hT)) (Nat.le_trans hT (by first | (simp; done) | (simp; omega))) hg).mono ?_); rintro e w1 ⟨rfl, hb1⟩; (have c0 : w1.cell? ⟨w.heap.size, 0, none⟩ = some (.int .i64 p) := cellB hb1 (by go_simp)); (have c1 : w1.cell? ⟨w.heap.size, 1, none⟩ = some (.slice a0 xs.length cap) := cellB hb1 (by go_simp)); (have hB1 : Below w.heap.size w w1 := Below.trans (by go_grown) (hb1.mono (by first | omega | (simp; done) | (simp; omega)))); have hz1 := hB1.size) | (go_at_call 64; (with_reducible refine (partedFn_any p _ _ xs B T _ (h.keep (belowSame hB1 hT)) (by omega) i j gi gj (cellB hB1 hi) (cellB hB1 hj) (by omega)).mono ?_); rintro e w2 ⟨rfl, hb2⟩))
  go_ret2
  exact ⟨rfl, hB1.trans (hb2.mono hz1)⟩

set_option maxHeartbeats 400000 in
theorem iPieces1_yes (p : Int) (a0 : Option Addr) (cap : Nat) (xs : List (Int × Int)) (B T : Nat) (w : World) (h : PairsIn 59 w B T (.slice a0 xs.length cap) xs) (hT : T ≤ w.heap.size) (hg : goodC p xs) (k : Nat) (hk : k < xs.length) :
    Calls Try.prog 25 #[.int .i64 p, .slice a0 xs.length cap, .int .i64 k] w fun e w' => e = .returned (.tuple #[.int .i64 (1 + (cntC (xs.getD k (0, 0)) xs : Nat)), .bool true]) ∧ Below w.heap.size w w' := by
  have k0 : ¬ (k : Int) < 0 := by omega
  have k1 : ¬ (xs.length : Int) ≤ (k : Int) := by omega
  obtain ⟨m, hm⟩ : ∃ m, cntC (xs.getD k (0, 0)) xs = m := ⟨_, rfl⟩
  rw [hm]
  have HM := Lib.hid hm
  clear hm
  go_enter Try.func25, Try.ntmps25
  go_wp2_with (first | (go_at_call 48; (with_reducible refine (told_pieces1 p _ _ xs B T _ (h.keep (belowSame (by go_grown) hT)) (Nat.le_trans hT (by first | (simp; done) | (simp; omega))) hg k w.heap.size hk (by go_simp)).mono ?_); rw [HM.out]; rintro e w1 ⟨rfl, hb1⟩))
  go_ret2
  exact ⟨rfl, Below.trans (by go_grown) (hb1.mono (by first | omega | (simp; done) | (simp; omega)))⟩

set_option maxHeartbeats 400000 in
theorem iPieces1_no (p : Int) (a0 : Option Addr) (cap : Nat) (xs : List (Int × Int)) (B T : Nat) (w : World) (h : PairsIn 59 w B T (.slice a0 xs.length cap) xs) (hT : T ≤ w.heap.size) (k : Int) (hg : ¬ (goodC p xs ∧ 0 ≤ k ∧ k < xs.length)) :
    Calls Try.prog 25 #[.int .i64 p, .slice a0 xs.length cap, .int .i64 k] w fun e w' => e = .returned (.tuple #[.int .i64 0, .bool false]) ∧ Below w.heap.size w w' := by
  by_cases h0 : k < 0
  · clear hg
    go_enter Try.func25, Try.ntmps25
    go_wp2
    go_ret2
    exact ⟨rfl, by go_grown⟩
  · by_cases h1 : (xs.length : Int) ≤ k
    · clear hg
      go_enter Try.func25, Try.ntmps25
      go_wp2
      go_ret2
      exact ⟨rfl, by go_grown⟩
    · have hg' : ¬ goodC p xs := fun g => hg ⟨g, by omega, by omega⟩
      clear hg
      go_enter Try.func25, Try.ntmps25
      go_wp2_with (first | (go_at_call 48; (with_reducible refine (told_no_int_disc p _ _ xs B T _ (h.keep (belowSame (by go_grown) hT)) (Nat.le_trans hT (by first | (simp; done) | (simp; omega))) _ hg').mono ?_); rintro e w1 ⟨rfl, hb1⟩))
      go_ret2
      exact ⟨rfl, Below.trans (by go_grown) (hb1.mono (by first | omega | (simp; done) | (simp; omega)))⟩

set_option maxHeartbeats 400000 in
theorem iParted_yes (p : Int) (a0 : Option Addr) (cap : Nat) (xs : List (Int × Int)) (B T : Nat) (w : World) (h : PairsIn 59 w B T (.slice a0 xs.length cap) xs) (hT : T ≤ w.heap.size) (hg : goodC p xs) (i j : Int) (hi : 0 ≤ i ∧ i < p) (hj : 0 ≤ j ∧ j < p) :
    Calls Try.prog 29 #[.int .i64 p, .slice a0 xs.length cap, .int .i64 i, .int .i64 j] w fun e w' => e = .returned (.tuple #[.int .i64 (partedL i j xs : Nat), .bool true]) ∧ Below w.heap.size w w' := by
  go_enter Try.func29, Try.ntmps29
  go_wp2_with (first | (go_at_call 63; (first | with_reducible refine (isPoint_yes p i _ hi).mono ?_ | with_reducible refine (isPoint_yes p j _ hj).mono ?_); rintro e w1 ⟨rfl, rfl⟩) | (go_at_call 48; (with_reducible refine (told_parted p _ _ xs B T _ (h.keep (belowSame (by go_grown) hT)) (Nat.le_trans hT (by first | (simp; done) | (simp; omega))) hg i j w.heap.size (w.heap.size + 1) (by go_simp) (by go_simp)).mono ?_); rintro e w1 ⟨rfl, hb1⟩))
  go_ret2
  exact ⟨rfl, Below.trans (by go_grown) (hb1.mono (by first | omega | (simp; done) | (simp; omega)))⟩

set_option maxHeartbeats 400000 in
theorem iParted_no (p : Int) (a0 : Option Addr) (cap : Nat) (xs : List (Int × Int)) (B T : Nat) (w : World) (h : PairsIn 59 w B T (.slice a0 xs.length cap) xs) (hT : T ≤ w.heap.size) (i j : Int) (hg : ¬ (goodC p xs ∧ (0 ≤ i ∧ i < p) ∧ (0 ≤ j ∧ j < p))) :
    Calls Try.prog 29 #[.int .i64 p, .slice a0 xs.length cap, .int .i64 i, .int .i64 j] w fun e w' => e = .returned (.tuple #[.int .i64 0, .bool false]) ∧ Below w.heap.size w w' := by
  by_cases hi : 0 ≤ i ∧ i < p
  · by_cases hj : 0 ≤ j ∧ j < p
    · have hg' : ¬ goodC p xs := fun g => hg ⟨g, hi, hj⟩
      clear hg
      go_enter Try.func29, Try.ntmps29
      go_wp2_with (first | (go_at_call 63; (first | with_reducible refine (isPoint_yes p i _ hi).mono ?_ | with_reducible refine (isPoint_yes p j _ hj).mono ?_); rintro e w1 ⟨rfl, rfl⟩) | (go_at_call 48; (with_reducible refine (told_no_int_disc p _ _ xs B T _ (h.keep (belowSame (by go_grown) hT)) (Nat.le_trans hT (by first | (simp; done) | (simp; omega))) _ hg').mono ?_); rintro e w1 ⟨rfl, hb1⟩))
      go_ret2
      exact ⟨rfl, Below.trans (by go_grown) (hb1.mono (by first | omega | (simp; done) | (simp; omega)))⟩
    · clear hg
      go_enter Try.func29, Try.ntmps29
      go_wp2_with (first | (go_at_call 63; (first | with_reducible refine (isPoint_yes p i _ hi).mono ?_ | with_reducible refine (isPoint_no p j _ hj).mono ?_); rintro e w1 ⟨rfl, rfl⟩))
      go_ret2
      exact ⟨rfl, by go_grown⟩
  · clear hg
    go_enter Try.func29, Try.ntmps29
    go_wp2_with (first | (go_at_call 63; (with_reducible refine (isPoint_no p i _ hi).mono ?_); rintro e w1 ⟨rfl, rfl⟩))
    go_ret2
    exact ⟨rfl, by go_grown⟩

set_option maxHeartbeats 400000 in
theorem sPieces1_yes (p : Int) (a0 : Option Addr) (cap : Nat) (xs : List (Int × Int)) (B T : Nat) (w : World) (h : PairsIn 59 w B T (.slice a0 xs.length cap) xs) (hT : T ≤ w.heap.size) (hg : goodC p xs) (k : Nat) (hk : k < xs.length) :
    Calls Try.prog 24 #[.int .i64 p, .slice a0 xs.length cap, .int .i64 k] w fun e w' => e = .returned (.tuple #[.int .i64 (1 + (cntC (xs.getD k (0, 0)) xs : Nat)), .bool true]) ∧ Below w.heap.size w w' := by
  have hl := hg.2.1
  have ho := chord_order hg
  have hw1 : IntKind.i64.wrap ((xs.length : Int) - 1) = (xs.length : Int) - 1 := by rw [IntKind.wrap_i64]; omega
  obtain ⟨m, hm⟩ : ∃ m, cntC (xs.getD k (0, 0)) xs = m := ⟨_, rfl⟩
  rw [hm]
  have HM := Lib.hid hm
  clear hm
  go_enter Try.func24, Try.ntmps24
  go_wp2_with (first | (go_at_call 45; (with_reducible refine (cdGood_yes p _ xs B T _ h hg).mono ?_); rintro e w1 ⟨rfl, hb1⟩; have h1 := h.keep (belowSame hb1 hT); have hz1 := hb1.size) | (go_at_call 56; (with_reducible refine (l1In_yes _ _ _ _ (by omega)).mono ?_); rintro e w2 ⟨rfl, rfl⟩) | (go_at_call 58; (with_reducible refine (rePieces_any _ xs k B T _ h1 ho hk (by omega)).mono ?_); rw [HM.out]; rintro e w2 ⟨rfl, hb2⟩))
  go_ret2
  exact ⟨rfl, hb1.trans (hb2.mono hz1)⟩

set_option maxHeartbeats 400000 in
theorem sPieces1_no (p : Int) (a0 : Option Addr) (cap : Nat) (xs : List (Int × Int)) (B T : Nat) (w : World) (h : PairsIn 59 w B T (.slice a0 xs.length cap) xs) (hT : T ≤ w.heap.size) (k : Int) (hn : xs.length ≤ 1048576) (hg0 : ¬ (goodC p xs ∧ 0 ≤ k ∧ k < xs.length)) :
    Calls Try.prog 24 #[.int .i64 p, .slice a0 xs.length cap, .int .i64 k] w fun e w' => e = .returned (.tuple #[.int .i64 0, .bool false]) ∧ Below w.heap.size w w' := by
  by_cases hg : goodC p xs
  · have hk : ¬ (0 ≤ k ∧ k ≤ (xs.length : Int) - 1) := fun g => hg0 ⟨hg, by omega, by omega⟩
    have hw1 : IntKind.i64.wrap ((xs.length : Int) - 1) = (xs.length : Int) - 1 := by rw [IntKind.wrap_i64]; omega
    clear hg0
    go_enter Try.func24, Try.ntmps24
    go_wp2_with (first | (go_at_call 45; (with_reducible refine (cdGood_yes p _ xs B T _ h hg).mono ?_); rintro e w1 ⟨rfl, hb1⟩; have h1 := h.keep (belowSame hb1 hT); have hz1 := hb1.size) | (go_at_call 56; (with_reducible refine (l1In_no _ _ _ _ hk).mono ?_); rintro e w2 ⟨rfl, rfl⟩))
    go_ret2
    exact ⟨rfl, hb1⟩
  · have hg' := hg
    clear hg0
    go_enter Try.func24, Try.ntmps24
    go_wp2_with (first | (go_at_call 45; (with_reducible refine (cdGood_no p _ xs B T _ h hg').mono ?_); rintro e w1 ⟨rfl, hb1⟩))
    go_ret2
    exact ⟨rfl, hb1⟩

set_option maxHeartbeats 400000 in
theorem sParted_yes (p : Int) (a0 : Option Addr) (cap : Nat) (xs : List (Int × Int)) (B T : Nat) (w : World) (h : PairsIn 59 w B T (.slice a0 xs.length cap) xs) (hT : T ≤ w.heap.size) (hg : goodC p xs) (i j : Int) (hi : 0 ≤ i ∧ i < p) (hj : 0 ≤ j ∧ j < p) :
    Calls Try.prog 28 #[.int .i64 p, .slice a0 xs.length cap, .int .i64 i, .int .i64 j] w fun e w' => e = .returned (.tuple #[.int .i64 (partedL i j xs : Nat), .bool true]) ∧ Below w.heap.size w w' := by
  have hl := hg.2.1
  have hp := hg.1
  have hbd : ∀ k, k < xs.length → 0 ≤ (xs.getD k (0, 0)).2 ∧ (xs.getD k (0, 0)).2 ≤ 60 := fun k hk => by have := (hg.2.2 k hk).1; omega
  have HBD := Lib.hid hbd
  have hw1 : IntKind.i64.wrap (p - 1) = p - 1 := by rw [IntKind.wrap_i64]; omega
  clear hbd
  go_enter Try.func28, Try.ntmps28
  go_wp2_with (first | (go_at_call 45; (with_reducible refine (cdGood_yes p _ xs B T _ h hg).mono ?_); rintro e w1 ⟨rfl, hb1⟩; have h1 := h.keep (belowSame hb1 hT); have hz1 := hb1.size) | (go_at_call 56; (with_reducible refine (l1In_yes _ _ _ _ (by omega)).mono ?_); rintro e w2 ⟨rfl, rfl⟩) | (go_at_call 62; (with_reducible refine (reParted_any _ xs i j B T _ h1 HBD.out (by omega)).mono ?_); rintro e w2 ⟨rfl, hb2⟩))
  go_ret2
  exact ⟨rfl, hb1.trans (hb2.mono hz1)⟩

set_option maxHeartbeats 400000 in
theorem sParted_no (p : Int) (a0 : Option Addr) (cap : Nat) (xs : List (Int × Int)) (B T : Nat) (w : World) (h : PairsIn 59 w B T (.slice a0 xs.length cap) xs) (hT : T ≤ w.heap.size) (i j : Int) (hg0 : ¬ (goodC p xs ∧ (0 ≤ i ∧ i < p) ∧ (0 ≤ j ∧ j < p))) :
    Calls Try.prog 28 #[.int .i64 p, .slice a0 xs.length cap, .int .i64 i, .int .i64 j] w fun e w' => e = .returned (.tuple #[.int .i64 0, .bool false]) ∧ Below w.heap.size w w' := by
  by_cases hg : goodC p xs
  · have hp := hg.1
    have hw1 : IntKind.i64.wrap (p - 1) = p - 1 := by rw [IntKind.wrap_i64]; omega
    by_cases hi : 0 ≤ i ∧ i ≤ p - 1
    · have hj : ¬ (0 ≤ j ∧ j ≤ p - 1) := fun hj => hg0 ⟨hg, by omega, by omega⟩
      clear hg0
      go_enter Try.func28, Try.ntmps28
      go_wp2_with (first | (go_at_call 45; (with_reducible refine (cdGood_yes p _ xs B T _ h hg).mono ?_); rintro e w1 ⟨rfl, hb1⟩; have h1 := h.keep (belowSame hb1 hT); have hz1 := hb1.size) | (go_at_call 56; (first | with_reducible refine (l1In_yes i _ _ _ hi).mono ?_ | with_reducible refine (l1In_no j _ _ _ hj).mono ?_); rintro e w2 ⟨rfl, rfl⟩))
      go_ret2
      exact ⟨rfl, hb1⟩
    · clear hg0
      go_enter Try.func28, Try.ntmps28
      go_wp2_with (first | (go_at_call 45; (with_reducible refine (cdGood_yes p _ xs B T _ h hg).mono ?_); rintro e w1 ⟨rfl, hb1⟩; have h1 := h.keep (belowSame hb1 hT); have hz1 := hb1.size) | (go_at_call 56; (with_reducible refine (l1In_no i _ _ _ hi).mono ?_); rintro e w2 ⟨rfl, rfl⟩))
      go_ret2
      exact ⟨rfl, hb1⟩
  · have hg' := hg
    clear hg0
    go_enter Try.func28, Try.ntmps28
    go_wp2_with (first | (go_at_call 45; (with_reducible refine (cdGood_no p _ xs B T _ h hg').mono ?_); rintro e w1 ⟨rfl, hb1⟩))
    go_ret2
    exact ⟨rfl, hb1⟩

set_option maxHeartbeats 1000000 in
theorem sPiecesAll_yes (p : Int) (a0 : Option Addr) (cap : Nat) (xs : List (Int × Int)) (B T : Nat) (w : World) (h : PairsIn 59 w B T (.slice a0 xs.length cap) xs) (hT : T ≤ w.heap.size) (hg : goodC p xs) :
    Calls Try.prog 26 #[.int .i64 p, .slice a0 xs.length cap] w fun e w' => e = .returned (.tuple #[.int .i64 (piecesL xs xs.length : Nat), .bool true]) ∧ Below w.heap.size w w' := by
  have hl := hg.2.1
  have ho := chord_order hg
  have HO := Lib.hid ho
  have HH := Lib.hid h
  have HG := Lib.hid hg
  clear ho hg
  go_enter Try.func26, Try.ntmps26
  go_wp2_with (first | (go_at_call 45; (with_reducible refine (cdGood_yes p _ xs B T _ HH.out HG.out).mono ?_); rintro e w1 ⟨rfl, hb1⟩; have hz1 := hb1.size))
  go_loopw [6, 14] (fun c i wr => ∃ k : Nat, k ≤ xs.length ∧ i = .int .i64 k ∧ c = .int .i64 (piecesL xs k : Nat) ∧ Below w.heap.size w wr) (fun _ i _ => xs.length - (intOf i).toNat)
  case atStart => exact ⟨0, by omega, rfl, rfl, hb1⟩
  case round =>
    obtain ⟨k, hk, rfl, rfl, hB⟩ := hrel
    have hz := hB.size
    by_cases hlt : k < xs.length
    · have hs := piecesL_step xs k
      have hle := piecesL_le xs k
      have hle2 : k * (1 + xs.length) ≤ 40 * 41 := Nat.mul_le_mul (by omega) (by omega)
      have hle3 := cntC_le (xs.getD k (0, 0)) xs
      obtain ⟨n, hn⟩ : ∃ n, cntC (xs.getD k (0, 0)) xs = n := ⟨_, rfl⟩
      obtain ⟨m, hm⟩ : ∃ m, piecesL xs k = m := ⟨_, rfl⟩
      rw [hn, hm] at hs
      rw [hm] at hle ⊢
      rw [hn] at hle3
      have HN := Lib.hid hn
      have HS := Lib.hid hs
      have hw1 : IntKind.i64.wrap ((m : Int) + (1 + (n : Int))) = (m : Int) + (1 + (n : Int)) := by rw [IntKind.wrap_i64]; omega
      clear hn hm hs
      go_wp2_with (first | (go_at_call 58; (refine (rePieces_any _ xs k B T _ (HH.out.keep (belowSame hB hT)) HO.out hlt (by omega)).mono ?_); rw [HN.out]; rintro e w2 ⟨rfl, hb2⟩; have hB2 := hB.trans (hb2.mono hz)))
      go_roundw
      case rel => exact ⟨k + 1, by omega, by go_num, by (rw [HS.out]; go_num), hB2⟩
      case measure => simp [intOf]; omega
    · obtain rfl : k = xs.length := by omega
      go_wp2
      go_ret2
      exact ⟨rfl, hB⟩

set_option maxHeartbeats 400000 in
theorem sPiecesAll_no (p : Int) (a0 : Option Addr) (cap : Nat) (xs : List (Int × Int)) (B T : Nat) (w : World) (h : PairsIn 59 w B T (.slice a0 xs.length cap) xs) (hT : T ≤ w.heap.size) (hg' : ¬ goodC p xs) :
    Calls Try.prog 26 #[.int .i64 p, .slice a0 xs.length cap] w fun e w' => e = .returned (.tuple #[.int .i64 0, .bool false]) ∧ Below w.heap.size w w' := by
  go_enter Try.func26, Try.ntmps26
  go_wp2_with (first | (go_at_call 45; (with_reducible refine (cdGood_no p _ xs B T _ h hg').mono ?_); rintro e w1 ⟨rfl, hb1⟩))
  go_ret2
  exact ⟨rfl, hb1⟩
end Go.Proofs.Ytmfbbbnenngehaa
