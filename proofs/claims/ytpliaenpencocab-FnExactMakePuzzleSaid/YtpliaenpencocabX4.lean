/- Clues: which there are, by the program (a clue that is none comes by a panic to a recovered door). -/
import Derived.Test.YtpliaenpencocabRows
import Derived.Test.YtpliaenpencocabX2
import Derived.Test.YtpliaenpencocabX3
import Derived.Test.YtpliaenpencocabW1
import Derived.OpenShut
import Derived.MakeChecks
import Derived.WalkLawsBesides
import Derived.Defers
import Derived.Recover
import Derived.Laws.Pointers
namespace Go.Proofs.Ytpliaenpencocab
open Go.RowKit Go.ChangeShapes Go.WideShapes
set_option linter.unusedVariables false

theorem tab_cells {H : Type} {P : Program} {W : World} {base : Nat} {sp : Nat → Bool} {held : Bool} {enc : TypeId × Value → H} {t e : TypeId} {f0 f1 f2 : Field} {n fuel : Nat} {cs : List Value} {p : List MemPlace} {rows : List Tri}
    (ht : P.underlying t = some (.array n e)) (he : P.underlying e = some (.struct #[f0, f1, f2])) (ce : P.cellsOf e = 3) (o0 : f0.offset = 0) (o1 : f1.offset = 1) (o2 : f2.offset = 2) (c0 : P.cellsOf f0.type = 1) (c1 : P.cellsOf f1.type = 1) (c2 : P.cellsOf f2.type = 1)
    (i0 : P.underlying f0.type = some (.int .i64)) (i1 : P.underlying f1.type = some (.int .i64)) (i2 : P.underlying f2.type = some (.int .i64))
    (hd : DataW.trod enc P W base sp held fuel t cs = some (.agg (rows.map fun r => .agg [.lit (.int .i64 r.1), .lit (.int .i64 r.2.1), .lit (.int .i64 r.2.2)]), p)) :
    ∀ i, i < n → cs[i * 3]? = some (.int .i64 (rows.getD i noT).1) ∧ cs[i * 3 + 1]? = some (.int .i64 (rows.getD i noT).2.1) ∧ cs[i * 3 + 2]? = some (.int .i64 (rows.getD i noT).2.2) := by
  obtain ⟨xs, m, _, hx, hlen, hxl, hel⟩ := DataW.trod_array ht hd
  simp only [Prod.mk.injEq, DataW.agg.injEq] at hx
  intro i hi
  have h1 := hel i hi
  rw [ce] at h1
  have hxi : xs[i]? = some xs[i] := List.getElem?_eq_getElem (by omega)
  rw [hxi] at h1
  have hri : (rows.map fun r => (DataW.agg [.lit (.int .i64 r.1), .lit (.int .i64 r.2.1), .lit (.int .i64 r.2.2)] : DataW H))[i]? = some xs[i].1 := by
    rw [hx.1, List.getElem?_map, hxi]
    rfl
  have hrl : i < rows.length := by
    rcases Nat.lt_or_ge i rows.length with h | h
    · exact h
    · rw [List.getElem?_eq_none (by simpa using h)] at hri
      cases hri
  rw [List.getElem?_map, List.getElem?_eq_getElem hrl] at hri
  simp only [Option.map_some, Option.some.injEq] at hri
  obtain ⟨y0, y1, y2, k', hy, hsl, g0, g1, g2⟩ := Go.Deep.trod_struct3 he h1
  rw [ce] at hsl
  obtain ⟨v0, v1, v2, hseg⟩ : ∃ v0 v1 v2, (cs.drop (i * 3)).take 3 = [v0, v1, v2] := by
    match hS : (cs.drop (i * 3)).take 3, hsl with
    | [v0, v1, v2], _ => exact ⟨v0, v1, v2, rfl⟩
  rw [hseg] at g0 g1 g2
  simp [o0, o1, o2, c0, c1, c2] at g0 g1 g2
  obtain ⟨x0, ex0, rfl, _⟩ := DataW.trod_int i0 g0
  obtain ⟨x1, ex1, rfl, _⟩ := DataW.trod_int i1 g1
  obtain ⟨x2, ex2, rfl, _⟩ := DataW.trod_int i2 g2
  simp at ex0 ex1 ex2
  subst ex0 ex1 ex2
  rw [hy] at hri
  simp at hri
  obtain ⟨r0, r1, r2⟩ := hri
  have hg : rows.getD i noT = rows[i] := by rw [List.getD_eq_getElem?_getD, List.getElem?_eq_getElem hrl]; rfl
  have at' : ∀ j, j < 3 → cs[i * 3 + j]? = ([Value.int .i64 x0, .int .i64 x1, .int .i64 x2] : List Value)[j]? := fun j hj => by
    rw [← hseg, List.getElem?_take, if_pos hj, List.getElem?_drop]
  rw [hg, r0, r1, r2]
  exact ⟨by simpa using at' 0 (by omega), by simpa using at' 1 (by omega), by simpa using at' 2 (by omega)⟩

def tabZ : List Tri := [(3, 14, 0), (1, 7, 0), (1, 14, 0), (0, 100, 0), (0, 14, 14), (1, 14, 0)]

end Go.Proofs.Ytpliaenpencocab
