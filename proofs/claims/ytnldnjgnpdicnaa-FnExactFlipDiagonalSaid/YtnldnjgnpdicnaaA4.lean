/- Regions: how many, and how many pieces; the program and the model. -/
import Derived.Test.YtnldnjgnpdicnaaA3
import Derived.Test.YtnldnjgnpdicnaaZE
import Derived.Test.YtnldnjgnpdicnaaK9
namespace Go.Proofs.Ytnldnjgnpdicnaa
open Go.RowKit
set_option linter.unusedVariables false

set_option maxHeartbeats 1000000 in
theorem countRegionsD (p : Int) (a0 : Option Addr) (cap : Nat) (xs : List (Int × Int)) (B T : Nat) (w : World) (h : PairsIn 52 w B T (.slice a0 xs.length cap) xs) (hT : T ≤ w.heap.size) (ho : ∀ k, k < xs.length → (xs.getD k (0, 0)).1 < (xs.getD k (0, 0)).2) (hn : xs.length ≤ 60) :
    Calls Try.prog 132 #[.agg #[.int .i64 p, .slice a0 xs.length cap]] w fun e w' => e = .returned (.int .i64 (1 + (xs.length : Int) + ((allP xs xs.length).length : Int))) ∧ Below w.heap.size w w' := by
  have hs := allP_length xs xs.length
  have hs2 : xs.length * xs.length ≤ 60 * 60 := Nat.mul_le_mul hn hn
  obtain ⟨ps, hps⟩ : ∃ ps, allP xs xs.length = ps := ⟨_, rfl⟩
  rw [hps] at hs ⊢
  have HPS := Lib.hid hps
  clear hps
  have hw1 : IntKind.i64.wrap ((xs.length : Int) + (ps.length : Int)) = (xs.length : Int) + (ps.length : Int) := by rw [IntKind.wrap_i64]; omega
  have hw2 : IntKind.i64.wrap (2 * (ps.length : Int)) = 2 * (ps.length : Int) := by rw [IntKind.wrap_i64]; omega
  have hw3 : IntKind.i64.wrap (1 + (xs.length : Int)) = 1 + (xs.length : Int) := by rw [IntKind.wrap_i64]; omega
  have hw4 : IntKind.i64.wrap (1 + (xs.length : Int) + (ps.length : Int)) = 1 + (xs.length : Int) + (ps.length : Int) := by rw [IntKind.wrap_i64]; omega
  have hw5 : IntKind.i64.wrap ((xs.length : Int) + 2 * (ps.length : Int)) = (xs.length : Int) + 2 * (ps.length : Int) := by rw [IntKind.wrap_i64]; omega
  clear hs hs2
  go_enter Try.func132, Try.ntmps132
  go_wp2
  go_region_held3 (fun w' => w'.cell? ⟨w.heap.size, 0, none⟩ = some (.int .i64 p) ∧ w'.cell? ⟨w.heap.size, 1, none⟩ = some (.slice a0 xs.length cap)) (go_keep)
    (first | (go_at_call 149; refine (pairsCrossing_any _ xs B T _ (h.keep (belowSame (by go_grown) hT)) ho hn).mono ?_; rw [HPS.out]; rintro e w1 ⟨v, rfl, hr, hb⟩; (have c0 : w1.cell? ⟨w.heap.size, 0, none⟩ = some (.int .i64 p) := cellB hb (by go_simp)); (have c1 : w1.cell? ⟨w.heap.size, 1, none⟩ = some (.slice a0 xs.length cap) := cellB hb (by go_simp)); (have hB1 : Below w.heap.size w w1 := Below.trans (by go_grown) (hb.mono (by first | omega | (simp; done) | (simp; omega)))); (obtain ⟨vs, hv⟩ := hr); (obtain ⟨a2, c2, g2, rfl, _, hm2, _⟩ := hv.view); clear hb hv))
  go_wp2
  go_ret
  exact ⟨rfl, hB1⟩

end Go.Proofs.Ytnldnjgnpdicnaa
