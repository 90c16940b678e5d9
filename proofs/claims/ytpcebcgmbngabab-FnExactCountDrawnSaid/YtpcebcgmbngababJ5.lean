/- Loops: what is told of a loop: whether it is one, and how many crossings. -/
import Derived.Test.YtpcebcgmbngababJ3
import Derived.Test.YtpcebcgmbngababJ4
namespace Go.Proofs.Ytpcebcgmbngabab
open Go.RowKit
set_option linter.unusedVariables false

theorem loopOf_yes (t : ByteArray) (ps : List (Nat × Nat)) (w : World) (ht : t.size ≤ 1048576) (hl : loopL t.data.toList = some ps) :
    Calls Try.prog 57 #[.string t] w fun e w' => ∃ a0 cap, e = .returned (.tuple #[.agg #[.slice a0 ps.length cap, .string t], .bool true]) ∧ PairsIn 96 w' w.heap.size w'.heap.size (.slice a0 ps.length cap) (pI ps) ∧ Below w.heap.size w w' := by
  refine (loopOf_any t w ht).mono ?_
  rintro e w' (⟨ps1, v, h1, rfl, hP, hb⟩ | ⟨h1, _⟩)
  · rw [hl] at h1
    cases h1
    obtain ⟨a0, cap, g, rfl, _⟩ := hP.1.view
    rw [pI_length] at hP ⊢
    exact ⟨a0, cap, rfl, hP, hb⟩
  · rw [hl] at h1; cases h1

theorem loopOf_no (t : ByteArray) (w : World) (ht : t.size ≤ 1048576) (hl : loopL t.data.toList = none) :
    Calls Try.prog 57 #[.string t] w fun e w' => e = .returned (.tuple #[.agg #[.slice none 0 0, .string ⟨#[]⟩], .bool false]) ∧ Below w.heap.size w w' := by
  refine (loopOf_any t w ht).mono ?_
  rintro e w' (⟨ps1, v, h1, _⟩ | ⟨h1, rfl, hb⟩)
  · rw [hl] at h1; cases h1
  · exact ⟨rfl, hb⟩

end Go.Proofs.Ytpcebcgmbngabab
