/- Sides of chords. Nothing of the program. -/
import Derived.Test.YtinjldakmjganaaG1
namespace Go.Proofs.Ytinjldakmjganaa
open Go.RowKit

/-- The side of a chord, as a byte; 0 if it has none yet. -/
def sideV (L : LabT) (i : Nat) : Int := match labT L i with | none => 0 | some (_, d) => if d % 2 = 0 then 105 else 111

def sidesL (n : Nat) (L : LabT) : List Int := (List.range n).map (sideV L)

theorem sidesL_length (n : Nat) (L : LabT) : (sidesL n L).length = n := by simp [sidesL]

theorem sidesL_get (n : Nat) (L : LabT) (i : Nat) (h : i < n) : (sidesL n L).getD i 0 = sideV L i := by
  simp [sidesL, List.getD, List.getElem?_map, List.getElem?_range h]

theorem sidesL_none (n : Nat) : sidesL n (List.replicate n none) = List.replicate n 0 := by
  unfold sidesL
  apply List.ext_getElem (by simp)
  intro i h1 h2
  simp at h1
  simp [sideV, labT, h1]

theorem sidesL_set (n : Nat) (L : LabT) (hl : L.length = n) (j r d : Nat) (hj : j < n) : (sidesL n L).set j (if d % 2 = 0 then 105 else 111) = sidesL n (L.set j (some (r, d))) := by
  apply List.ext_getElem (by simp [sidesL])
  intro i h1 h2
  rw [List.getElem_set]
  simp only [sidesL, List.getElem_map, List.getElem_range, sideV]
  rw [labT_set L j i _ (by omega)]
  by_cases e : j = i
  · rw [if_pos e, if_pos e]
  · rw [if_neg e, if_neg e]

theorem sideV_zero (L : LabT) (i : Nat) : sideV L i = 0 ↔ labT L i = none := by
  unfold sideV
  cases e : labT L i with
  | none => simp
  | some x =>
    obtain ⟨r, d⟩ := x
    simp
    split <;> omega

theorem sideV_some (L : LabT) (i : Nat) (h : labT L i ≠ none) : sideV L i = if distT L i % 2 = 0 then 105 else 111 := by
  unfold sideV distT
  cases e : labT L i with
  | none => exact absurd e h
  | some x => rfl

end Go.Proofs.Ytinjldakmjganaa
