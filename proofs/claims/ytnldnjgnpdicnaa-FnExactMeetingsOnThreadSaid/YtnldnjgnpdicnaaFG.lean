/- Slices of threads: what their cells hold. -/
import Derived.Test.YtnldnjgnpdicnaaUGi
namespace Go.Proofs.Ytnldnjgnpdicnaa
open Go.RowKit

/-- What is read of element k: its cells in the world w. -/
theorem elem_cells {e : TypeId} {w : World} {B T g n cap : Nat} {xs : List (Int × Int)} (h : PairsIn e w B T (.slice (some ⟨g, 0, none⟩) n cap) xs) (k : Nat) (hk : k < xs.length) (a b : Int) (hab : xs.getD k (0, 0) = (a, b)) :
    w.cell? ⟨g, k * 2, none⟩ = some (.int .i64 a) ∧ w.cell? ⟨g, k * 2 + 1, none⟩ = some (.int .i64 b) := by
  have c0 := h.1.cell0 k hk
  have c1 := h.1.cell1 k hk
  rw [hab] at c0 c1
  exact ⟨c0, c1⟩

theorem list_form {e : TypeId} {w : World} {B T : Nat} {u : Value} {xs : List (Int × Int)} (h : PairsIn e w B T u xs) (hn : 0 < xs.length) : ∃ g cap, u = .slice (some ⟨g, 0, none⟩) xs.length cap := by
  obtain ⟨a1, c1, g1, rfl, ha1, _⟩ := h.pairs.view
  exact ⟨g1, c1, by rw [ha1 hn]⟩

end Go.Proofs.Ytnldnjgnpdicnaa
