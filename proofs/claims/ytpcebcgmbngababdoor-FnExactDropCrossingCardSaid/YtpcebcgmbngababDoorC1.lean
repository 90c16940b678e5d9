/- Chords: their order, and whether two of them cross. -/
import Derived.Test.YtpcebcgmbngababDoorW1
import Derived.Deep.RegionHeld3
import Derived.Sort.Grow
namespace Go.Proofs.YtpcebcgmbngababDoor
open Go.RowKit

/-- Draws and new blocks: no more. -/
def Grows (w w' : World) : Prop := ∃ q os, w' = Sort.grow (w.drewN q) os

theorem grows_below {w w' : World} (h : Grows w w') : Below w.heap.size w w' := by
  obtain ⟨q, os, rfl⟩ := h
  refine ⟨rfl, rfl, rfl, by simp [Sort.grow], fun k hk => ?_⟩
  simp [Sort.grow]
  rw [Array.getElem?_append_left hk]

theorem grows_refl (w : World) : Grows w w := ⟨0, #[], by simp [World.drewN_zero]⟩

theorem grows_alloc {w w1 : World} (h : Grows w w1) (o : Obj) : Grows w (w1.alloc o) := by
  obtain ⟨q, os, rfl⟩ := h
  exact ⟨q, os ++ #[o], by rw [Sort.alloc_eq_grow, Sort.grow_grow]⟩

theorem grows_drewN {w w1 : World} (h : Grows w w1) (n : Nat) : Grows w (w1.drewN n) := by
  obtain ⟨q, os, rfl⟩ := h
  exact ⟨q + n, os, by rw [← World.drewN_drewN]; rfl⟩

theorem grows_drew {w w1 : World} (h : Grows w w1) : Grows w w1.drew := grows_drewN h 1

def cmpI (x y : Int) : Int := if x < y then -1 else if y < x then 1 else 0

/-- The order of two chords. -/
def cmpC (a b c d : Int) : Int := if cmpI a c ≠ 0 then cmpI a c else cmpI b d

def orI (u v : Int) : Int := if u ≠ 0 then u else v

/-- Do two chords a b and c d cross? -/
def crossB (a b c d : Int) : Bool := decide ((a < c ∧ c < b ∧ b < d) ∨ (c < a ∧ a < d ∧ d < b))

theorem cmpC_pos (a b c d : Int) : decide (0 < cmpC a b c d) = decide (c < a ∨ (c = a ∧ d < b)) := by
  unfold cmpC cmpI
  rw [decide_eq_decide]
  split <;> split <;> (try split) <;> (try split) <;> omega

theorem ret_bool {a b : Bool} (h : a = b) : Ending.returned (.bool a) = .returned (.bool b) := by rw [h]

end Go.Proofs.YtpcebcgmbngababDoor
