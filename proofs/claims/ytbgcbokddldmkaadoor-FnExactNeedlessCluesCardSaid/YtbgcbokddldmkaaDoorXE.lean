/- LeftByClues: both sides, the law; parts of clues. -/
import Derived.Test.YtbgcbokddldmkaaDoorXD
import Derived.Test.YtbgcbokddldmkaaDoorXZ
import Derived.Test.YtbgcbokddldmkaaDoorV1
import Derived.Test.YtbgcbokddldmkaaDoorV0
namespace Go.Proofs.YtbgcbokddldmkaaDoor
open Go.RowKit
set_option linter.unusedVariables false

/-- 'list[:k:c]' -/
theorem srcT_take {w : World} {a0 : Option Addr} {n cap c k : Nat} {xs : List Tri} (h : SrcT w (.slice a0 n cap) xs) (hk : k ≤ xs.length) (hc : k ≤ c) (hcc : c ≤ cap) : SrcT w (.slice a0 k c) (xs.take k) := by
  rcases h with ⟨hv, rfl⟩ | ⟨b, off, c0, hv, hm, hm2, hcl⟩
  · obtain ⟨rfl, rfl, rfl⟩ : a0 = none ∧ n = 0 ∧ cap = 0 := by simpa using hv
    obtain rfl : k = 0 := by simpa using hk
    obtain rfl : c = 0 := by omega
    exact .inl ⟨rfl, by simp⟩
  · obtain ⟨rfl, rfl, rfl⟩ : a0 = some ⟨b, off, none⟩ ∧ n = xs.length ∧ cap = c0 := by simpa using hv
    have hl : (xs.take k).length = k := by simp; omega
    refine .inr ⟨b, off, c, by rw [hl], by omega, by omega, fun i hi => ?_⟩
    rw [getD_take _ _ _ _ (by omega)]
    exact hcl i (by omega)

/-- How many stars fit the first 0, 1, .. clues. -/
def leftV (xs : List Tri) (k : Nat) : Int := (((solZ (xs.take k)).length : Nat) : Int)
def leftL (xs : List Tri) : List Int := (List.range (xs.length + 1)).map (leftV xs)
theorem leftL_length (xs : List Tri) : (leftL xs).length = xs.length + 1 := by simp [leftL]

theorem puzzleP.take {xs : List Tri} (h : puzzleP xs) (k : Nat) : puzzleP (xs.take k) := h.sub (List.take_sublist k xs)

set_option maxHeartbeats 400000 in
theorem toldIS_no (u : Value) (xs : List Tri) (w : World) (hx : SrcT w u xs) (f : Value) (hP : ¬ puzzleP xs) (hW : ClueW w) : Calls Tryd.prog 57 #[.agg #[u], f] w (Gives (IntsIn 3) w [] false) := by
  have HX := Lib.hid hx
  have HW := Lib.hid hW
  have HP := Lib.hid (show decide (puzzleP xs) = false from decide_eq_false hP)
  obtain ⟨a0, cap, g, off, rfl, _⟩ := hx.form
  clear hx hW
  go_enter Tryd.func57, Tryd.ntmps57
  go_wp2_with (first | (go_at_call 62; (refine (iIsPuzzle_any _ xs false _ (HX.out.later (by go_grown)) HP.out (HW.out.later (by go_grown))).mono ?_); rintro e w1 ⟨rfl, hb1⟩; (have c0 : w1.cell? ⟨w.heap.size, 0, none⟩ = some (.slice a0 xs.length cap) := cellB hb1 (by go_simp)); (have hB1 : Below w.heap.size w w1 := Below.trans (by go_grown) (hb1.mono (by first | omega | (simp; done) | (simp; omega)))); have hz1 := hB1.size))
  go_ret2
  exact ⟨_, rfl, IntsIn.nil _ _ _ _, hB1⟩

end Go.Proofs.YtbgcbokddldmkaaDoor
