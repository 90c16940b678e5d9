/- What the laws do with slices of chords. -/
import Derived.Test.YtljabankfakbpaaDoorRows
import Derived.Test.YtljabankfakbpaaDoorP1
import Derived.Deep.RegionHeld3
namespace Go.Proofs.YtljabankfakbpaaDoor
open Go.RowKit

set_option maxHeartbeats 400000 in
theorem eqChord_same (a b : Int) (w : World) :
    Calls Tryd.prog 15 #[.agg #[.int .i64 a, .int .i64 b], .agg #[.int .i64 a, .int .i64 b]] w fun e w' => e = .returned (.bool true) ∧ Below w.heap.size w w' := by
  go_enter Tryd.func15, Tryd.ntmps15
  go_wp2
  go_ret
  exact ⟨rfl, by go_grown⟩

set_option maxHeartbeats 400000 in
theorem eqChordS_in (v1 v2 : Value) (xs : List (Int × Int)) (B1 T1 B2 T2 : Nat) (e : TypeId) (w : World) (h1 : PairsIn e w B1 T1 v1 xs) (h2 : PairsIn e w B2 T2 v2 xs) :
    Calls Tryd.prog 8 #[v1, v2] w fun e w' => e = .returned (.bool true) ∧ Below w.heap.size w w' := by
  obtain ⟨a1, c1, g1, rfl, ha1, hm, hx1, hy1⟩ := h1.pairs.view
  obtain ⟨a2, c2, g2, rfl, ha2, _, hx2, hy2⟩ := h2.pairs.view
  clear h1 h2
  unfold maxLen at hm
  have X1 := Lib.hid hx1
  have X2 := Lib.hid hx2
  have Y1 := Lib.hid hy1
  have Y2 := Lib.hid hy2
  have HA1 := Lib.hid ha1
  have HA2 := Lib.hid ha2
  clear hx1 hx2 hy1 hy2 ha1 ha2
  go_enter Tryd.func8, Tryd.ntmps8
  go_wp2
  go_loopw [5] (fun i wr => ∃ k : Nat, k ≤ xs.length ∧ i = .int .i64 k ∧ Below w.heap.size w wr) (fun i _ => xs.length - (intOf i).toNat)
  case atStart => exact ⟨0, by omega, rfl, Below.refl _ _⟩
  case round =>
    obtain ⟨k, hk, rfl, hB⟩ := hrel
    by_cases hlt : k < xs.length
    · obtain rfl := HA1.out (by omega)
      obtain rfl := HA2.out (by omega)
      have hz := hB.size
      have cx1 : wr.cell? ⟨g1, k * 2, none⟩ = some (.int .i64 (xs.getD k (0, 0)).1) := (hB.cell (p := ⟨g1, k * 2, none⟩) (World.block_lt_of_cell? w _ (X1.out k hlt))).trans (X1.out k hlt)
      have cx2 : wr.cell? ⟨g2, k * 2, none⟩ = some (.int .i64 (xs.getD k (0, 0)).1) := (hB.cell (p := ⟨g2, k * 2, none⟩) (World.block_lt_of_cell? w _ (X2.out k hlt))).trans (X2.out k hlt)
      have cy1 : wr.cell? ⟨g1, k * 2 + 1, none⟩ = some (.int .i64 (xs.getD k (0, 0)).2) := (hB.cell (p := ⟨g1, k * 2 + 1, none⟩) (World.block_lt_of_cell? w _ (Y1.out k hlt))).trans (Y1.out k hlt)
      have cy2 : wr.cell? ⟨g2, k * 2 + 1, none⟩ = some (.int .i64 (xs.getD k (0, 0)).2) := (hB.cell (p := ⟨g2, k * 2 + 1, none⟩) (World.block_lt_of_cell? w _ (Y2.out k hlt))).trans (Y2.out k hlt)
      generalize (xs.getD k (0, 0)).1 = x at *
      generalize (xs.getD k (0, 0)).2 = y at *
      have hi1 : 0 ≤ (k : Int) := by omega
      have hi2 : (k : Int) < (xs.length : Int) := by omega
      go_wp2
      go_region_held3 (fun w' => w'.cell? ⟨g1, k * 2, none⟩ = some (.int .i64 x) ∧ w'.cell? ⟨g2, k * 2, none⟩ = some (.int .i64 x) ∧ w'.cell? ⟨g1, k * 2 + 1, none⟩ = some (.int .i64 y) ∧ w'.cell? ⟨g2, k * 2 + 1, none⟩ = some (.int .i64 y)) (go_keep)
        (first | (go_at_call 15; refine (eqChord_same _ _ _).mono ?_; rintro e w1 ⟨rfl, hb⟩; have d1 := cellB hb cx1; have d2 := cellB hb cx2; have d3 := cellB hb cy1; have d4 := cellB hb cy2; (have hB2 : Below w.heap.size w w1 := by (refine Below.trans ?_ (hb.mono (by first | exact hz | (simp; omega))); go_grown))))
      go_wp2
      go_roundw
      case rel => exact ⟨k + 1, by omega, by go_num, hB2⟩
      case measure => simp [intOf]; omega
    · go_wp2
      go_ret
      exact ⟨rfl, hB⟩

end Go.Proofs.YtljabankfakbpaaDoor
