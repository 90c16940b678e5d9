/- Clues: which there are, by the program (a clue that is none comes by a panic to a recovered door). -/
import Derived.Test.YtbgcbokddldmkaaDoorRows
import Derived.Test.YtbgcbokddldmkaaDoorX2
import Derived.Test.YtbgcbokddldmkaaDoorX3
import Derived.Test.YtbgcbokddldmkaaDoorW1
import Derived.OpenShut
import Derived.MakeChecks
import Derived.WalkLawsBesides
import Derived.Defers
import Derived.Recover
import Derived.Laws.Pointers
import Derived.Stop.LaidErr
namespace Go.Proofs.YtbgcbokddldmkaaDoor
open Go.RowKit Go.ChangeShapes Go.WideShapes
set_option linter.unusedVariables false

theorem tab_cells {H : Type} {P : Program} {W : World} {base : Nat} {sp : Nat → Bool} {held : Bool} {enc : TypeId × Value → H} {t e : TypeId} {f0 f1 f2 : Field} {n fuel : Nat} {cs : List Value} {p : List MemPlace} {rows : List Tri}
    (ht : P.underlying t = some (.array n e)) (he : P.underlying e = some (.struct #[f0, f1, f2])) (ce : P.cellsOf e = 3) (o0 : f0.offset = 0) (o1 : f1.offset = 1) (o2 : f2.offset = 2) (c0 : P.cellsOf f0.type = 1) (c1 : P.cellsOf f1.type = 1) (c2 : P.cellsOf f2.type = 1)
    (i0 : P.underlying f0.type = some (.int .i64)) (i1 : P.underlying f1.type = some (.int .i64)) (i2 : P.underlying f2.type = some (.int .i64))
    (hd : DataW.trod enc P W base sp held fuel t cs = some (.agg (rows.map fun r => .agg [.lit (.int .i64 r.1), .lit (.int .i64 r.2.1), .lit (.int .i64 r.2.2)]), p)) :
    ∀ i, i < n → cs[i * 3]? = some (.int .i64 (rows.getD i noT).1) ∧ cs[i * 3 + 1]? = some (.int .i64 (rows.getD i noT).2.1) ∧ cs[i * 3 + 2]? = some (.int .i64 (rows.getD i noT).2.2) := by
  obtain ⟨xs, m, _, hx, hlen, hxl, hel⟩ := DataW.trod_array ht hd
  simp only [Prod.mk.injEq, DataW.agg.injEq] at hx
  intro i hi
  have h1 := hel i hi
  rw [ce] at h1
  have hxi : xs[i]? = some xs[i] := List.getElem?_eq_getElem (by omega)
  rw [hxi] at h1
  have hri : (rows.map fun r => (DataW.agg [.lit (.int .i64 r.1), .lit (.int .i64 r.2.1), .lit (.int .i64 r.2.2)] : DataW H))[i]? = some xs[i].1 := by
    rw [hx.1, List.getElem?_map, hxi]
    rfl
  have hrl : i < rows.length := by
    rcases Nat.lt_or_ge i rows.length with h | h
    · exact h
    · rw [List.getElem?_eq_none (by simpa using h)] at hri
      cases hri
  rw [List.getElem?_map, List.getElem?_eq_getElem hrl] at hri
  simp only [Option.map_some, Option.some.injEq] at hri
  obtain ⟨y0, y1, y2, k', hy, hsl, g0, g1, g2⟩ := Go.Deep.trod_struct3 he h1
  rw [ce] at hsl
  obtain ⟨v0, v1, v2, hseg⟩ : ∃ v0 v1 v2, (cs.drop (i * 3)).take 3 = [v0, v1, v2] := by
    match hS : (cs.drop (i * 3)).take 3, hsl with
    | [v0, v1, v2], _ => exact ⟨v0, v1, v2, rfl⟩
  rw [hseg] at g0 g1 g2
  simp [o0, o1, o2, c0, c1, c2] at g0 g1 g2
  obtain ⟨x0, ex0, rfl, _⟩ := DataW.trod_int i0 g0
  obtain ⟨x1, ex1, rfl, _⟩ := DataW.trod_int i1 g1
  obtain ⟨x2, ex2, rfl, _⟩ := DataW.trod_int i2 g2
  simp at ex0 ex1 ex2
  subst ex0 ex1 ex2
  rw [hy] at hri
  simp at hri
  obtain ⟨r0, r1, r2⟩ := hri
  have hg : rows.getD i noT = rows[i] := by rw [List.getD_eq_getElem?_getD, List.getElem?_eq_getElem hrl]; rfl
  have at' : ∀ j, j < 3 → cs[i * 3 + j]? = ([Value.int .i64 x0, .int .i64 x1, .int .i64 x2] : List Value)[j]? := fun j hj => by
    rw [← hseg, List.getElem?_take, if_pos hj, List.getElem?_drop]
  rw [hg, r0, r1, r2]
  exact ⟨by simpa using at' 0 (by omega), by simpa using at' 1 (by omega), by simpa using at' 2 (by omega)⟩

def tabZ : List Tri := [(3, 14, 0), (1, 7, 0), (1, 14, 0), (0, 100, 0), (0, 14, 14), (1, 14, 0)]

/-- The table of bounds holds them. -/
structure ClueW (w : World) : Prop where
  cell : ∀ i, i < 6 → w.cell? ⟨0, i * 3, none⟩ = some (.int .i64 (tabZ.getD i noT).1) ∧ w.cell? ⟨0, i * 3 + 1, none⟩ = some (.int .i64 (tabZ.getD i noT).2.1) ∧ w.cell? ⟨0, i * 3 + 2, none⟩ = some (.int .i64 (tabZ.getD i noT).2.2)

theorem ClueW.later {w w' : World} (h : ClueW w) (hb : Below w.heap.size w w') : ClueW w' :=
  ⟨fun i hi => ⟨cellB hb (h.cell i hi).1, cellB hb (h.cell i hi).2.1, cellB hb (h.cell i hi).2.2⟩⟩

theorem g_bounds : Tryd.prog.globalNamed "loop.example/g01324/impl.boundsOfKinds" = some 0 := by kernel_rfl

theorem clueW_of {W : World} {rest : List (String × DataW Unit)} (h : laidMet Tryd.prog (("loop.example/g01324/impl.boundsOfKinds", Rows.laid_loop_example_g01324_impl_boundsOfKinds) :: rest) W) : ClueW W := by
  obtain ⟨ps, ⟨g', t', cs, fuel, p, q, hg', ht', hvar, hd, _, _⟩, _⟩ := h
  obtain rfl := Option.some.inj (g_bounds.symm.trans hg')
  obtain rfl : 167 = t' := Option.some.inj ((show (Tryd.prog.globals[0]?).map (·.type) = some 167 by kernel_rfl).symm.trans ht')
  have key := tab_cells (rows := tabZ) Tryd.underlying167 Tryd.underlying166 (by kernel_rfl) rfl rfl rfl (by kernel_rfl) (by kernel_rfl) (by kernel_rfl) Tryd.underlying3 Tryd.underlying3 Tryd.underlying3 hd
  refine ⟨fun i hi => ?_⟩
  have hk := key i hi
  have hv := fun j => World.var?_cell g_bounds hvar j
  simp only [Array.getElem?_toList] at hk
  exact ⟨by rw [hv]; exact hk.1, by rw [hv]; exact hk.2.1, by rw [hv]; exact hk.2.2⟩

theorem clueW_NeedlessClues {W : World} (hL : laidMetH Tryd.prog Rows.fnExactNeedlessCluesRow.laid W) (hsh : W.ShapedOpen Tryd.prog) : ClueW W := by
  rw [Go.MakeChecks.laidMetH_plain _ _ _ (by kernel_rfl)] at hL
  exact clueW_of hL

theorem clueW_DropClue {W : World} (hL : laidMetH Tryd.prog Rows.fnExactDropClueRow.laid W) (hsh : W.ShapedOpen Tryd.prog) : ClueW W := by
  rw [Go.MakeChecks.laidMetH_plain _ _ _ (by kernel_rfl)] at hL
  exact clueW_of hL

theorem clueW_AddClue {W : World} (hL : laidMetH Tryd.prog Rows.fnExactAddClueRow.laid W) (hsh : W.ShapedOpen Tryd.prog) : ClueW W := by
  rw [Go.MakeChecks.laidMetH_plain _ _ _ (by kernel_rfl)] at hL
  exact clueW_of hL

theorem clueW_BestClue {W : World} (hL : laidMetH Tryd.prog Rows.fnExactBestClueRow.laid W) (hsh : W.ShapedOpen Tryd.prog) : ClueW W := by
  rw [Go.MakeChecks.laidMetH_plain _ _ _ (by kernel_rfl)] at hL
  exact clueW_of hL

theorem clueW_HarderPuzzle {W : World} (hL : laidMetH Tryd.prog Rows.fnExactHarderPuzzleRow.laid W) (hsh : W.ShapedOpen Tryd.prog) : ClueW W := by
  rw [Go.MakeChecks.laidMetH_plain _ _ _ (by kernel_rfl)] at hL
  exact clueW_of hL

theorem clueW_PuzzleText {W : World} (hL : laidMetH Tryd.prog Rows.fnExactPuzzleTextRow.laid W) (hsh : W.ShapedOpen Tryd.prog) : ClueW W := by
  rw [Go.MakeChecks.laidMetH_plain _ _ _ (by kernel_rfl)] at hL
  exact clueW_of hL.tail.tail.tail

theorem clueW_ParsePuzzle {W : World} (hL : laidMetH Tryd.prog Rows.fnExactParsePuzzleRow.laid W) (hsh : W.ShapedOpen Tryd.prog) : ClueW W := by
  rw [Go.MakeChecks.laidMetH_plain _ _ _ (by kernel_rfl)] at hL
  exact clueW_of hL.tail.tail.tail.tail.tail.tail

set_option maxHeartbeats 2000000 in
theorem requireClue_yes (k a b : Int) (w : World) (hc : clueP (k, a, b)) (hW : ClueW w) :
    Calls Tryd.prog 129 #[.agg #[.int .i64 k, .int .i64 a, .int .i64 b]] w fun e w' => e = .returned (.tuple #[]) ∧ Below w.heap.size w w' := by
  obtain ⟨⟨hk0, hk5⟩, ⟨h0, h1, h2, h3, h4, h5⟩, hb⟩ := hc
  simp only at hk0 hk5 h0 h1 h2 h3 h4 h5 hb
  have hk : k = 0 ∨ k = 1 ∨ k = 2 ∨ k = 3 ∨ k = 4 ∨ k = 5 := by omega
  rcases hk with rfl | rfl | rfl | rfl | rfl | rfl
  · have g1 : ¬ a < 3 := by omega
    have g2 : ¬ 14 < a := by omega
    have g3 : ¬ b < 0 := by omega
    have g4 : ¬ 0 < b := by omega
    have hx : w.cell? ⟨0, 0, none⟩ = some (.int .i64 3) ∧ w.cell? ⟨0, 1, none⟩ = some (.int .i64 14) ∧ w.cell? ⟨0, 2, none⟩ = some (.int .i64 0) := hW.cell 0 (by omega)
    have t0 := cellB (w' := w.alloc (.cells #[.int .i64 0, .int .i64 a, .int .i64 b] 44)) (by go_grown) hx.1
    have t1 := cellB (w' := w.alloc (.cells #[.int .i64 0, .int .i64 a, .int .i64 b] 44)) (by go_grown) hx.2.1
    have t2 := cellB (w' := w.alloc (.cells #[.int .i64 0, .int .i64 a, .int .i64 b] 44)) (by go_grown) hx.2.2
    clear hx h0 h1 h2 h3 h4 h5 hb hk0 hk5 hW
    go_enter Tryd.func129, Tryd.ntmps129
    go_wp2
    go_end0
    exact ⟨rfl, by go_grown⟩
  · have g1 : ¬ a < 1 := by omega
    have g2 : ¬ 7 < a := by omega
    have g3 : ¬ b < 0 := by omega
    have g4 : ¬ 0 < b := by omega
    have hx : w.cell? ⟨0, 3, none⟩ = some (.int .i64 1) ∧ w.cell? ⟨0, 4, none⟩ = some (.int .i64 7) ∧ w.cell? ⟨0, 5, none⟩ = some (.int .i64 0) := hW.cell 1 (by omega)
    have t0 := cellB (w' := w.alloc (.cells #[.int .i64 1, .int .i64 a, .int .i64 b] 44)) (by go_grown) hx.1
    have t1 := cellB (w' := w.alloc (.cells #[.int .i64 1, .int .i64 a, .int .i64 b] 44)) (by go_grown) hx.2.1
    have t2 := cellB (w' := w.alloc (.cells #[.int .i64 1, .int .i64 a, .int .i64 b] 44)) (by go_grown) hx.2.2
    clear hx h0 h1 h2 h3 h4 h5 hb hk0 hk5 hW
    go_enter Tryd.func129, Tryd.ntmps129
    go_wp2
    go_end0
    exact ⟨rfl, by go_grown⟩
  · have g1 : ¬ a < 1 := by omega
    have g2 : ¬ 14 < a := by omega
    have g3 : ¬ b < 0 := by omega
    have g4 : ¬ 0 < b := by omega
    have hx : w.cell? ⟨0, 6, none⟩ = some (.int .i64 1) ∧ w.cell? ⟨0, 7, none⟩ = some (.int .i64 14) ∧ w.cell? ⟨0, 8, none⟩ = some (.int .i64 0) := hW.cell 2 (by omega)
    have t0 := cellB (w' := w.alloc (.cells #[.int .i64 2, .int .i64 a, .int .i64 b] 44)) (by go_grown) hx.1
    have t1 := cellB (w' := w.alloc (.cells #[.int .i64 2, .int .i64 a, .int .i64 b] 44)) (by go_grown) hx.2.1
    have t2 := cellB (w' := w.alloc (.cells #[.int .i64 2, .int .i64 a, .int .i64 b] 44)) (by go_grown) hx.2.2
    clear hx h0 h1 h2 h3 h4 h5 hb hk0 hk5 hW
    go_enter Tryd.func129, Tryd.ntmps129
    go_wp2
    go_end0
    exact ⟨rfl, by go_grown⟩
  · have g1 : ¬ a < 0 := by omega
    have g2 : ¬ 100 < a := by omega
    have g3 : ¬ b < 0 := by omega
    have g4 : ¬ 0 < b := by omega
    have hx : w.cell? ⟨0, 9, none⟩ = some (.int .i64 0) ∧ w.cell? ⟨0, 10, none⟩ = some (.int .i64 100) ∧ w.cell? ⟨0, 11, none⟩ = some (.int .i64 0) := hW.cell 3 (by omega)
    have t0 := cellB (w' := w.alloc (.cells #[.int .i64 3, .int .i64 a, .int .i64 b] 44)) (by go_grown) hx.1
    have t1 := cellB (w' := w.alloc (.cells #[.int .i64 3, .int .i64 a, .int .i64 b] 44)) (by go_grown) hx.2.1
    have t2 := cellB (w' := w.alloc (.cells #[.int .i64 3, .int .i64 a, .int .i64 b] 44)) (by go_grown) hx.2.2
    clear hx h0 h1 h2 h3 h4 h5 hb hk0 hk5 hW
    go_enter Tryd.func129, Tryd.ntmps129
    go_wp2
    go_end0
    exact ⟨rfl, by go_grown⟩
  · have g1 : ¬ a < 0 := by omega
    have g2 : ¬ 14 < a := by omega
    have g3 : ¬ b < 0 := by omega
    have g4 : ¬ 14 < b := by omega
    have hx : w.cell? ⟨0, 12, none⟩ = some (.int .i64 0) ∧ w.cell? ⟨0, 13, none⟩ = some (.int .i64 14) ∧ w.cell? ⟨0, 14, none⟩ = some (.int .i64 14) := hW.cell 4 (by omega)
    have t0 := cellB (w' := w.alloc (.cells #[.int .i64 4, .int .i64 a, .int .i64 b] 44)) (by go_grown) hx.1
    have t1 := cellB (w' := w.alloc (.cells #[.int .i64 4, .int .i64 a, .int .i64 b] 44)) (by go_grown) hx.2.1
    have t2 := cellB (w' := w.alloc (.cells #[.int .i64 4, .int .i64 a, .int .i64 b] 44)) (by go_grown) hx.2.2
    clear hx h0 h1 h2 h3 h4 h5 hb hk0 hk5 hW
    go_enter Tryd.func129, Tryd.ntmps129
    go_wp2
    go_end0
    exact ⟨rfl, by go_grown⟩
  · have g1 : ¬ a < 1 := by omega
    have g2 : ¬ 14 < a := by omega
    have g3 : ¬ b < 0 := by omega
    have g4 : ¬ 0 < b := by omega
    have hx : w.cell? ⟨0, 15, none⟩ = some (.int .i64 1) ∧ w.cell? ⟨0, 16, none⟩ = some (.int .i64 14) ∧ w.cell? ⟨0, 17, none⟩ = some (.int .i64 0) := hW.cell 5 (by omega)
    have t0 := cellB (w' := w.alloc (.cells #[.int .i64 5, .int .i64 a, .int .i64 b] 44)) (by go_grown) hx.1
    have t1 := cellB (w' := w.alloc (.cells #[.int .i64 5, .int .i64 a, .int .i64 b] 44)) (by go_grown) hx.2.1
    have t2 := cellB (w' := w.alloc (.cells #[.int .i64 5, .int .i64 a, .int .i64 b] 44)) (by go_grown) hx.2.2
    clear hx h0 h1 h2 h3 h4 h5 hb hk0 hk5 hW
    go_enter Tryd.func129, Tryd.ntmps129
    go_wp2
    go_end0
    exact ⟨rfl, by go_grown⟩
end Go.Proofs.YtbgcbokddldmkaaDoor
