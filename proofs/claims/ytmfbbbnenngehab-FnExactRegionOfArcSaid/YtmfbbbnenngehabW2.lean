/- Contracts of the functions of stars: numbers, and the laws over them. -/
import Derived.Test.YtmfbbbnenngehabW1
namespace Go.Proofs.Ytmfbbbnenngehab
open Go.RowKit

set_option maxHeartbeats 400000 in
theorem isPoint_yes (p k : Int) (w : World) (h : 0 ≤ k ∧ k < p) :
    Calls Try.prog 43 #[.int .i64 p, .int .i64 k] w fun e w' => e = .returned (.bool true) ∧ w = w' := by
  obtain ⟨h1, h2⟩ := h
  go_enter Try.func43, Try.ntmps43
  go_wp2
  go_ret
  exact ⟨rfl, rfl⟩

set_option maxHeartbeats 400000 in
theorem isPoint_no (p k : Int) (w : World) (h : ¬ (0 ≤ k ∧ k < p)) :
    Calls Try.prog 43 #[.int .i64 p, .int .i64 k] w fun e w' => e = .returned (.bool false) ∧ w = w' := by
  by_cases h1 : 0 ≤ k
  · have h2 : ¬ k < p := by omega
    clear h
    go_enter Try.func43, Try.ntmps43
    go_wp2
    go_ret
    exact ⟨rfl, rfl⟩
  · clear h
    go_enter Try.func43, Try.ntmps43
    go_wp2
    go_ret
    exact ⟨rfl, rfl⟩

end Go.Proofs.Ytmfbbbnenngehab
