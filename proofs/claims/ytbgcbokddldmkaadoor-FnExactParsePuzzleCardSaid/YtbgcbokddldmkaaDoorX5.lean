/- Clues that are none: the panic; the recovered door. -/
import Derived.Test.YtbgcbokddldmkaaDoorX4
namespace Go.Proofs.YtbgcbokddldmkaaDoor
open Go.RowKit
set_option linter.unusedVariables false

set_option maxHeartbeats 4000000 in
theorem requireClue_no (k a b : Int) (w : World) (hc : ¬ clueP (k, a, b)) (hW : ClueW w) :
    Calls Tryd.prog 129 #[.agg #[.int .i64 k, .int .i64 a, .int .i64 b]] w fun e w' => e = .panicked [{ v := .iface 44 (.agg #[.int .i64 k, .int .i64 a, .int .i64 b]), recovered := false }] ∧ Below w.heap.size w w' := by
  unfold clueP at hc
  simp only at hc
  by_cases hk0 : k < 0
  · clear hc hW
    go_enter Tryd.func129, Tryd.ntmps129
    go_wp2
    exact ⟨rfl, rfl, by go_grown⟩
  by_cases hk5 : 6 ≤ k
  · clear hc hW
    go_enter Tryd.func129, Tryd.ntmps129
    go_wp2
    exact ⟨rfl, rfl, by go_grown⟩
  have hk : k = 0 ∨ k = 1 ∨ k = 2 ∨ k = 3 ∨ k = 4 ∨ k = 5 := by omega
  rcases hk with rfl | rfl | rfl | rfl | rfl | rfl
  · have hx : w.cell? ⟨0, 0, none⟩ = some (.int .i64 3) ∧ w.cell? ⟨0, 1, none⟩ = some (.int .i64 14) ∧ w.cell? ⟨0, 2, none⟩ = some (.int .i64 0) := hW.cell 0 (by omega)
    have t0 := cellB (w' := w.alloc (.cells #[.int .i64 0, .int .i64 a, .int .i64 b] 44)) (by go_grown) hx.1
    have t1 := cellB (w' := w.alloc (.cells #[.int .i64 0, .int .i64 a, .int .i64 b] 44)) (by go_grown) hx.2.1
    have t2 := cellB (w' := w.alloc (.cells #[.int .i64 0, .int .i64 a, .int .i64 b] 44)) (by go_grown) hx.2.2
    have hd : a < 3 ∨ 14 < a ∨ b < 0 ∨ 0 < b := by omega
    clear hx hc hk0 hk5 hW
    by_cases g1 : a < 3
    · go_enter Tryd.func129, Tryd.ntmps129
      go_wp2
      exact ⟨rfl, rfl, by go_grown⟩
    by_cases g2 : 14 < a
    · go_enter Tryd.func129, Tryd.ntmps129
      go_wp2
      exact ⟨rfl, rfl, by go_grown⟩
    by_cases g3 : b < 0
    · go_enter Tryd.func129, Tryd.ntmps129
      go_wp2
      exact ⟨rfl, rfl, by go_grown⟩
    · have g4 : 0 < b := by omega
      go_enter Tryd.func129, Tryd.ntmps129
      go_wp2
      exact ⟨rfl, rfl, by go_grown⟩
  · have hx : w.cell? ⟨0, 3, none⟩ = some (.int .i64 1) ∧ w.cell? ⟨0, 4, none⟩ = some (.int .i64 7) ∧ w.cell? ⟨0, 5, none⟩ = some (.int .i64 0) := hW.cell 1 (by omega)
    have t0 := cellB (w' := w.alloc (.cells #[.int .i64 1, .int .i64 a, .int .i64 b] 44)) (by go_grown) hx.1
    have t1 := cellB (w' := w.alloc (.cells #[.int .i64 1, .int .i64 a, .int .i64 b] 44)) (by go_grown) hx.2.1
    have t2 := cellB (w' := w.alloc (.cells #[.int .i64 1, .int .i64 a, .int .i64 b] 44)) (by go_grown) hx.2.2
    have hd : a < 1 ∨ 7 < a ∨ b < 0 ∨ 0 < b := by omega
    clear hx hc hk0 hk5 hW
    by_cases g1 : a < 1
    · go_enter Tryd.func129, Tryd.ntmps129
      go_wp2
      exact ⟨rfl, rfl, by go_grown⟩
    by_cases g2 : 7 < a
    · go_enter Tryd.func129, Tryd.ntmps129
      go_wp2
      exact ⟨rfl, rfl, by go_grown⟩
    by_cases g3 : b < 0
    · go_enter Tryd.func129, Tryd.ntmps129
      go_wp2
      exact ⟨rfl, rfl, by go_grown⟩
    · have g4 : 0 < b := by omega
      go_enter Tryd.func129, Tryd.ntmps129
      go_wp2
      exact ⟨rfl, rfl, by go_grown⟩
  · have hx : w.cell? ⟨0, 6, none⟩ = some (.int .i64 1) ∧ w.cell? ⟨0, 7, none⟩ = some (.int .i64 14) ∧ w.cell? ⟨0, 8, none⟩ = some (.int .i64 0) := hW.cell 2 (by omega)
    have t0 := cellB (w' := w.alloc (.cells #[.int .i64 2, .int .i64 a, .int .i64 b] 44)) (by go_grown) hx.1
    have t1 := cellB (w' := w.alloc (.cells #[.int .i64 2, .int .i64 a, .int .i64 b] 44)) (by go_grown) hx.2.1
    have t2 := cellB (w' := w.alloc (.cells #[.int .i64 2, .int .i64 a, .int .i64 b] 44)) (by go_grown) hx.2.2
    have hd : a < 1 ∨ 14 < a ∨ b < 0 ∨ 0 < b := by omega
    clear hx hc hk0 hk5 hW
    by_cases g1 : a < 1
    · go_enter Tryd.func129, Tryd.ntmps129
      go_wp2
      exact ⟨rfl, rfl, by go_grown⟩
    by_cases g2 : 14 < a
    · go_enter Tryd.func129, Tryd.ntmps129
      go_wp2
      exact ⟨rfl, rfl, by go_grown⟩
    by_cases g3 : b < 0
    · go_enter Tryd.func129, Tryd.ntmps129
      go_wp2
      exact ⟨rfl, rfl, by go_grown⟩
    · have g4 : 0 < b := by omega
      go_enter Tryd.func129, Tryd.ntmps129
      go_wp2
      exact ⟨rfl, rfl, by go_grown⟩
  · have hx : w.cell? ⟨0, 9, none⟩ = some (.int .i64 0) ∧ w.cell? ⟨0, 10, none⟩ = some (.int .i64 100) ∧ w.cell? ⟨0, 11, none⟩ = some (.int .i64 0) := hW.cell 3 (by omega)
    have t0 := cellB (w' := w.alloc (.cells #[.int .i64 3, .int .i64 a, .int .i64 b] 44)) (by go_grown) hx.1
    have t1 := cellB (w' := w.alloc (.cells #[.int .i64 3, .int .i64 a, .int .i64 b] 44)) (by go_grown) hx.2.1
    have t2 := cellB (w' := w.alloc (.cells #[.int .i64 3, .int .i64 a, .int .i64 b] 44)) (by go_grown) hx.2.2
    have hd : a < 0 ∨ 100 < a ∨ b < 0 ∨ 0 < b := by omega
    clear hx hc hk0 hk5 hW
    by_cases g1 : a < 0
    · go_enter Tryd.func129, Tryd.ntmps129
      go_wp2
      exact ⟨rfl, rfl, by go_grown⟩
    by_cases g2 : 100 < a
    · go_enter Tryd.func129, Tryd.ntmps129
      go_wp2
      exact ⟨rfl, rfl, by go_grown⟩
    by_cases g3 : b < 0
    · go_enter Tryd.func129, Tryd.ntmps129
      go_wp2
      exact ⟨rfl, rfl, by go_grown⟩
    · have g4 : 0 < b := by omega
      go_enter Tryd.func129, Tryd.ntmps129
      go_wp2
      exact ⟨rfl, rfl, by go_grown⟩
  · have hx : w.cell? ⟨0, 12, none⟩ = some (.int .i64 0) ∧ w.cell? ⟨0, 13, none⟩ = some (.int .i64 14) ∧ w.cell? ⟨0, 14, none⟩ = some (.int .i64 14) := hW.cell 4 (by omega)
    have t0 := cellB (w' := w.alloc (.cells #[.int .i64 4, .int .i64 a, .int .i64 b] 44)) (by go_grown) hx.1
    have t1 := cellB (w' := w.alloc (.cells #[.int .i64 4, .int .i64 a, .int .i64 b] 44)) (by go_grown) hx.2.1
    have t2 := cellB (w' := w.alloc (.cells #[.int .i64 4, .int .i64 a, .int .i64 b] 44)) (by go_grown) hx.2.2
    have hd : a < 0 ∨ 14 < a ∨ b < 0 ∨ 14 < b := by omega
    clear hx hc hk0 hk5 hW
    by_cases g1 : a < 0
    · go_enter Tryd.func129, Tryd.ntmps129
      go_wp2
      exact ⟨rfl, rfl, by go_grown⟩
    by_cases g2 : 14 < a
    · go_enter Tryd.func129, Tryd.ntmps129
      go_wp2
      exact ⟨rfl, rfl, by go_grown⟩
    by_cases g3 : b < 0
    · go_enter Tryd.func129, Tryd.ntmps129
      go_wp2
      exact ⟨rfl, rfl, by go_grown⟩
    · have g4 : 14 < b := by omega
      go_enter Tryd.func129, Tryd.ntmps129
      go_wp2
      exact ⟨rfl, rfl, by go_grown⟩
  · have hx : w.cell? ⟨0, 15, none⟩ = some (.int .i64 1) ∧ w.cell? ⟨0, 16, none⟩ = some (.int .i64 14) ∧ w.cell? ⟨0, 17, none⟩ = some (.int .i64 0) := hW.cell 5 (by omega)
    have t0 := cellB (w' := w.alloc (.cells #[.int .i64 5, .int .i64 a, .int .i64 b] 44)) (by go_grown) hx.1
    have t1 := cellB (w' := w.alloc (.cells #[.int .i64 5, .int .i64 a, .int .i64 b] 44)) (by go_grown) hx.2.1
    have t2 := cellB (w' := w.alloc (.cells #[.int .i64 5, .int .i64 a, .int .i64 b] 44)) (by go_grown) hx.2.2
    have hd : a < 1 ∨ 14 < a ∨ b < 0 ∨ 0 < b := by omega
    clear hx hc hk0 hk5 hW
    by_cases g1 : a < 1
    · go_enter Tryd.func129, Tryd.ntmps129
      go_wp2
      exact ⟨rfl, rfl, by go_grown⟩
    by_cases g2 : 14 < a
    · go_enter Tryd.func129, Tryd.ntmps129
      go_wp2
      exact ⟨rfl, rfl, by go_grown⟩
    by_cases g3 : b < 0
    · go_enter Tryd.func129, Tryd.ntmps129
      go_wp2
      exact ⟨rfl, rfl, by go_grown⟩
    · have g4 : 0 < b := by omega
      go_enter Tryd.func129, Tryd.ntmps129
      go_wp2
      exact ⟨rfl, rfl, by go_grown⟩

end Go.Proofs.YtbgcbokddldmkaaDoor
