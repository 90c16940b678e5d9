/- How many pairs of chords cross; the chords of a star that cross a chord. -/
import Derived.Test.YtlkehdjfmmghjabZ7
import Derived.Test.YtlkehdjfmmghjabK9
namespace Go.Proofs.Ytlkehdjfmmghjab
open Go.RowKit
set_option linter.unusedVariables false

theorem Pairs.cap_le {w : World} {B n cap : Nat} {a : Option Addr} {e : TypeId} {xs : List (Int × Int)} (h : Pairs w B e (.slice a n cap) xs) : xs.length ≤ cap ∧ cap ≤ maxLen := by
  obtain ⟨hl, ⟨hv, hn⟩ | ⟨g, c, cur, hv, hB, hg, hn, hm, hs, ht⟩⟩ := h
  · cases hv
    exact ⟨by omega, by unfold maxLen; omega⟩
  · cases hv
    exact ⟨hn, hm⟩

theorem cntC_drop_take (c : Int × Int) (xs : List (Int × Int)) (i k : Nat) (h : i + 1 + k < xs.length) : cntC c ((xs.drop (i + 1)).take (k + 1)) = cntC c ((xs.drop (i + 1)).take k) + if crossP c (xs.getD (i + 1 + k) (0, 0)) then 1 else 0 := by
  rw [cntC_take c (xs.drop (i + 1)) k (by simp; omega), getD_drop]

set_option maxHeartbeats 1000000 in
theorem srCount_any (u : Value) (xs : List (Int × Int)) (B T : Nat) (w : World) (h : PairsIn 61 w B T u xs) (hc : ∀ k, k < xs.length → (xs.getD k (0, 0)).1 < (xs.getD k (0, 0)).2) (hn : xs.length ≤ 1000) :
    Calls Try.prog 93 #[u] w fun e w' => e = .returned (.int .i64 (pairsC xs : Nat)) ∧ Below w.heap.size w w' := by
  obtain ⟨a1, c1, g1, rfl, ha1, hmm, hx1, hy1⟩ := h.pairs.view
  have hle := pairsC_le xs
  have hle2 : xs.length * xs.length ≤ 1000 * 1000 := Nat.mul_le_mul hn hn
  obtain ⟨hcap1, hcap2⟩ := h.pairs.cap_le
  unfold maxLen at hcap2
  have X := Lib.hid hx1
  have Y := Lib.hid hy1
  have HA := Lib.hid ha1
  have HC := Lib.hid hc
  obtain ⟨tot, htot⟩ : ∃ tot, tot = pairsC xs := ⟨_, rfl⟩
  rw [← htot] at hle ⊢
  have HTOT := Lib.hid htot
  clear h ha1 hx1 hy1 hc htot
  go_enter Try.func93, Try.ntmps93
  go_wp2
  go_loopw [3, 10] (fun c i wr => ∃ k m : Nat, k ≤ xs.length ∧ i = .int .i64 k ∧ c = .int .i64 m ∧ m + pairsC (xs.drop k) = tot ∧ Below w.heap.size w wr) (fun _ i _ => xs.length - (intOf i).toNat)
  case atStart => exact ⟨0, 0, by omega, rfl, rfl, by rw [List.drop_zero, HTOT.out]; omega, by go_grown⟩
  case round =>
    obtain ⟨wo, rfl⟩ : ∃ z, z = wr := ⟨wr, rfl⟩
    obtain ⟨i, m, hi, rfl, rfl, hsum, hB⟩ := hrel
    have hz := hB.size
    by_cases hlt : i < xs.length
    · obtain rfl := HA.out (by omega)
      obtain ⟨x, hx⟩ : ∃ x, x = (xs.getD i (0, 0)).1 := ⟨_, rfl⟩
      obtain ⟨y, hy⟩ : ∃ y, y = (xs.getD i (0, 0)).2 := ⟨_, rfl⟩
      have hxy := HC.out i hlt
      have cx : wo.cell? ⟨g1, i * 2, none⟩ = _ := (hB.cell (p := ⟨g1, i * 2, none⟩) (World.block_lt_of_cell? w _ (X.out i hlt))).trans (X.out i hlt)
      have cy : wo.cell? ⟨g1, i * 2 + 1, none⟩ = _ := (hB.cell (p := ⟨g1, i * 2 + 1, none⟩) (World.block_lt_of_cell? w _ (Y.out i hlt))).trans (Y.out i hlt)
      rw [← hx] at cx hxy
      rw [← hy] at cy hxy
      have HS := Lib.hid (show m + (cntC (x, y) (xs.drop (i + 1)) + pairsC (xs.drop (i + 1))) = tot by rw [hx, hy, ← hsum, pairsC_drop xs i hlt])
      clear hx hy hsum
      have hw1 : IntKind.i64.wrap ((i : Int) + 1) = ((i + 1 : Nat) : Int) := by rw [IntKind.wrap_i64]; omega
      have b1 : (0 : Int) ≤ ((i + 1 : Nat) : Int) := by omega
      have b2 : ((i + 1 : Nat) : Int) ≤ (xs.length : Int) := by omega
      have HXY := Lib.hid hxy
      clear hxy
      go_wp2
      · obtain rfl : c1 = i + 1 := by omega
        have hm0 : xs.length - (i + 1) = 0 := by omega
        have hd0 : xs.drop (i + 1) = [] := List.drop_of_length_le (by omega)
        have hs0 := HS.out
        rw [hd0] at hs0
        rw [hm0]
        refine wp_loop_rounds 1 ?_
        rw [rounds_succ]
        go_wp2
        go_roundw
        case rel => exact ⟨i + 1, m, by omega, by go_num, rfl, by rw [hd0]; simpa [cntC, pairsC] using hs0, hB.alloc hz _⟩
        case measure => simp [intOf]; omega
      have e0 : (wo.alloc (.cells #[.int .i64 x, .int .i64 y] 61)).cell? ⟨wo.heap.size, 0, none⟩ = some (.int .i64 x) := by go_simp
      have e1 : (wo.alloc (.cells #[.int .i64 x, .int .i64 y] 61)).cell? ⟨wo.heap.size, 1, none⟩ = some (.int .i64 y) := by go_simp
      obtain ⟨n2, hn2⟩ : ∃ n2, n2 = xs.length - (i + 1) := ⟨_, rfl⟩
      rw [← hn2]
      go_loopw [3, 20] (fun c j wr => ∃ k m2 : Nat, k ≤ n2 ∧ j = .int .i64 k ∧ c = .int .i64 m2 ∧ m2 = m + cntC (x, y) ((xs.drop (i + 1)).take k) ∧ Below w.heap.size w wr ∧ wr.cell? ⟨wo.heap.size, 0, none⟩ = some (.int .i64 x) ∧ wr.cell? ⟨wo.heap.size, 1, none⟩ = some (.int .i64 y) ∧ wo.heap.size < wr.heap.size) (fun _ j _ => n2 - (intOf j).toNat)
      case atStart => exact ⟨0, m, by omega, rfl, rfl, by simp [cntC], hB.alloc hz _, e0, e1, by simp⟩
      case round =>
        obtain ⟨k, m2, hk, rfl, rfl, hm2, hBj, c0, c1, hz1⟩ := hrel
        clear e0 e1 cx cy
        have HM2 := Lib.hid hm2
        have hmt : m2 ≤ tot + 1000 := by
          have h1 := HS.out
          have h2 := cntC_le (x, y) ((xs.drop (i + 1)).take k)
          rw [List.length_take, List.length_drop] at h2
          omega
        by_cases hlk : k < n2
        · have hik : i + 1 + k < xs.length := by omega
          obtain ⟨x2, hx2⟩ : ∃ x, x = (xs.getD (i + 1 + k) (0, 0)).1 := ⟨_, rfl⟩
          obtain ⟨y2, hy2⟩ : ∃ y, y = (xs.getD (i + 1 + k) (0, 0)).2 := ⟨_, rfl⟩
          have hxy2 := HC.out (i + 1 + k) hik
          have dx : wr.cell? ⟨g1, (i + 1) * 2 + k * 2, none⟩ = some (.int .i64 x2) := by
            rw [show (i + 1) * 2 + k * 2 = (i + 1 + k) * 2 by omega, hx2]
            exact (hBj.cell (p := ⟨g1, (i + 1 + k) * 2, none⟩) (World.block_lt_of_cell? w _ (X.out _ hik))).trans (X.out _ hik)
          have dy : wr.cell? ⟨g1, (i + 1) * 2 + k * 2 + 1, none⟩ = some (.int .i64 y2) := by
            rw [show (i + 1) * 2 + k * 2 + 1 = (i + 1 + k) * 2 + 1 by omega, hy2]
            exact (hBj.cell (p := ⟨g1, (i + 1 + k) * 2 + 1, none⟩) (World.block_lt_of_cell? w _ (Y.out _ hik))).trans (Y.out _ hik)
          have hcp : crossP (x, y) (xs.getD (i + 1 + k) (0, 0)) = crossB x y x2 y2 := by unfold crossP; rw [hx2, hy2]
          have hstep := cntC_drop_take (x, y) xs i k hik
          rw [← hx2, ← hy2] at hxy2
          have HXY2 := Lib.hid hxy2
          clear hx2 hy2 hxy2 hm2 hn2
          have k1 : (0 : Int) ≤ (k : Int) := by omega
          have k2 : (k : Int) < (n2 : Int) := by omega
          cases hcr : crossB x y x2 y2 with
          | true =>
            have HS2 := Lib.hid (show cntC (x, y) ((xs.drop (i + 1)).take (k + 1)) = cntC (x, y) ((xs.drop (i + 1)).take k) + 1 by rw [hstep, hcp, hcr]; rfl)
            have HCR := Lib.hid hcr
            clear hstep hcp hcr
            go_wp2_with (first | (go_at_call 100; (with_reducible refine (srCross_any x y x2 y2 _ HXY.out HXY2.out).mono ?_); rintro e w1 ⟨rfl, hb⟩; rw [HCR.out]; (have c0 : w1.cell? ⟨wo.heap.size, 0, none⟩ = some (.int .i64 x) := cellB hb (by first | assumption | go_simp)); (have c1 : w1.cell? ⟨wo.heap.size, 1, none⟩ = some (.int .i64 y) := cellB hb (by first | assumption | go_simp)); (have hB1 : Below w.heap.size w w1 := by (refine Below.trans ?_ (hb.mono (by first | omega | (simp; omega))); go_grown)); (have hz1 : wo.heap.size < w1.heap.size := by have := hb.size; (try simp at this); omega); clear hb))
            go_roundw
            case rel => exact ⟨k + 1, m2 + 1, by omega, by go_num, by go_num, by rw [HS2.out]; have := HM2.out; omega, hB1, c0, c1, hz1⟩
            case measure => simp [intOf]; omega
          | false =>
            have HS2 := Lib.hid (show cntC (x, y) ((xs.drop (i + 1)).take (k + 1)) = cntC (x, y) ((xs.drop (i + 1)).take k) + 0 by rw [hstep, hcp, hcr]; rfl)
            have HCR := Lib.hid hcr
            clear hstep hcp hcr
            go_wp2_with (first | (go_at_call 100; (with_reducible refine (srCross_any x y x2 y2 _ HXY.out HXY2.out).mono ?_); rintro e w1 ⟨rfl, hb⟩; rw [HCR.out]; (have c0 : w1.cell? ⟨wo.heap.size, 0, none⟩ = some (.int .i64 x) := cellB hb (by first | assumption | go_simp)); (have c1 : w1.cell? ⟨wo.heap.size, 1, none⟩ = some (.int .i64 y) := cellB hb (by first | assumption | go_simp)); (have hB1 : Below w.heap.size w w1 := by (refine Below.trans ?_ (hb.mono (by first | omega | (simp; omega))); go_grown)); (have hz1 : wo.heap.size < w1.heap.size := by have := hb.size; (try simp at this); omega); clear hb))
            go_roundw
            case rel => exact ⟨k + 1, m2 + 0, by omega, by go_num, by go_num, by rw [HS2.out]; have := HM2.out; omega, hB1, c0, c1, hz1⟩
            case measure => simp [intOf]; omega
        · obtain rfl : k = n2 := by omega
          have hs0 := HS.out
          rw [List.take_of_length_le (by simp; omega)] at hm2
          go_wp2
          go_roundw
          case rel => exact ⟨i + 1, m2, by omega, by go_num, rfl, by omega, hBj⟩
          case measure => simp [intOf]; omega
    · obtain rfl : i = xs.length := by omega
      rw [List.drop_length] at hsum
      obtain rfl : m = tot := by simpa [pairsC] using hsum
      go_wp2
      go_ret
      exact ⟨rfl, hB⟩

end Go.Proofs.Ytlkehdjfmmghjab
