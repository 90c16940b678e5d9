/- Groups: the model's lists of first chords and distances. -/
import Derived.Test.YtinjldakmjganaaG3
import Derived.Test.YtinjldakmjganaaB8
namespace Go.Proofs.Ytinjldakmjganaa
open Go.RowKit
set_option linter.unusedVariables false

def rootV (L : LabT) (i : Nat) : Int := match labT L i with | none => -1 | some (r, _) => (r : Int)

def rootsL (n : Nat) (L : LabT) : List Int := (List.range n).map (rootV L)

def distsL (n : Nat) (L : LabT) : List Int := (List.range n).map fun i => (distT L i : Int)

theorem rootsL_length (n : Nat) (L : LabT) : (rootsL n L).length = n := by simp [rootsL]

theorem distsL_length (n : Nat) (L : LabT) : (distsL n L).length = n := by simp [distsL]

theorem rootsL_get (n : Nat) (L : LabT) (i : Nat) (h : i < n) : (rootsL n L).getD i 0 = rootV L i := by
  simp [rootsL, List.getD, List.getElem?_map, List.getElem?_range h]

theorem distsL_get (n : Nat) (L : LabT) (i : Nat) (h : i < n) : (distsL n L).getD i 0 = (distT L i : Int) := by
  simp [distsL, List.getD, List.getElem?_map, List.getElem?_range h]

theorem rootsL_none (n : Nat) : (List.range n).map (fun _ => (-1 : Int)) = rootsL n (List.replicate n none) := by
  unfold rootsL
  refine List.map_congr_left fun i hi => ?_
  rw [List.mem_range] at hi
  simp [rootV, labT, hi]

theorem distsL_none (n : Nat) : List.replicate n (0 : Int) = distsL n (List.replicate n none) := by
  unfold distsL
  apply List.ext_getElem (by simp)
  intro i h1 h2
  simp at h1
  simp [distT, labT, h1]

theorem rootsL_set (n : Nat) (L : LabT) (hl : L.length = n) (j r d : Nat) (hj : j < n) : (rootsL n L).set j (r : Int) = rootsL n (L.set j (some (r, d))) := by
  apply List.ext_getElem (by simp [rootsL])
  intro i h1 h2
  rw [List.getElem_set]
  simp only [rootsL, List.getElem_map, List.getElem_range, rootV]
  rw [labT_set L j i _ (by omega)]
  by_cases e : j = i
  · rw [if_pos e, if_pos e]
  · rw [if_neg e, if_neg e]

theorem distsL_set (n : Nat) (L : LabT) (hl : L.length = n) (j r d : Nat) (hj : j < n) : (distsL n L).set j (d : Int) = distsL n (L.set j (some (r, d))) := by
  apply List.ext_getElem (by simp [distsL])
  intro i h1 h2
  rw [List.getElem_set]
  simp only [distsL, List.getElem_map, List.getElem_range, distT]
  rw [labT_set L j i _ (by omega)]
  by_cases e : j = i
  · rw [if_pos e, if_pos e]
  · rw [if_neg e, if_neg e]

theorem distT_none {L : LabT} {i : Nat} (h : labT L i = none) : distT L i = 0 := by unfold distT; rw [h]

theorem distsL_zero (n : Nat) (L : LabT) (hl : L.length = n) (j r : Nat) (hj : j < n) (h : labT L j = none) : distsL n L = distsL n (L.set j (some (r, 0))) := by
  unfold distsL
  refine List.map_congr_left fun i hi => ?_
  unfold distT
  rw [labT_set L j i _ (by omega)]
  by_cases e : j = i
  · subst e; rw [if_pos rfl, h]
  · rw [if_neg e]

theorem distT_set_le {L : LabT} {b j r d : Nat} (h : ∀ i, distT L i ≤ b) (hj : j < L.length) (hd : d ≤ b) (i : Nat) : distT (L.set j (some (r, d))) i ≤ b := by
  unfold distT
  rw [labT_set L j i _ hj]
  by_cases e : j = i
  · rw [if_pos e]; exact hd
  · rw [if_neg e]; exact h i

theorem rootV_none {L : LabT} {i : Nat} (h : labT L i = none) : rootV L i = -1 := by unfold rootV; rw [h]

theorem rootV_some {L : LabT} {i : Nat} (h : labT L i ≠ none) : 0 ≤ rootV L i := by
  unfold rootV
  cases e : labT L i with
  | none => exact absurd e h
  | some x => simp

theorem zeroInts_cells (n : Nat) : zeroInts n = intCells (List.replicate n 0) := by
  apply Array.toList_inj.1
  rw [zeroInts_list]
  simp [intCells]

theorem reachS_dist (cr : Nat → Nat → Bool) (root d f : Nat) (S : LabT × List Nat) (j b : Nat) (h : ∀ i, distT S.1 i ≤ b) (hj : j < S.1.length) (hd : d < b) : ∀ i, distT (reachS cr root d f S j).1 i ≤ b := by
  unfold reachS
  split
  · exact distT_set_le h hj hd
  · exact h

theorem reachK_pre (cr : Nat → Nat → Bool) (root d f : Nat) (S : LabT × List Nat) (k j : Nat) (h : j < S.2.length) : (reachK cr root d f S k).2.getD j 0 = S.2.getD j 0 ∧ j < (reachK cr root d f S k).2.length := by
  rw [show S = (S.1, S.2) from rfl, reachK_queue]
  refine ⟨?_, by simp; omega⟩
  simp only
  rw [List.getD, List.getElem?_append_left h, ← List.getD]

end Go.Proofs.Ytinjldakmjganaa
