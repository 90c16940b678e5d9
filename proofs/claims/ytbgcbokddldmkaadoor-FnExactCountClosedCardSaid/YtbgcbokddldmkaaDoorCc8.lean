/- Closed words, counted: the law. -/
import Derived.Test.YtbgcbokddldmkaaDoorCc7
import Derived.Test.YtbgcbokddldmkaaDoorRows
import Derived.ChangeSame
import Derived.Stop.LaidErr
namespace Go.Proofs.YtbgcbokddldmkaaDoor
open Go.RowKit Go.ChangeShapes Go.WideShapes
set_option linter.unusedVariables false

/-- A table of pairs of numbers, as the text lays it. -/
theorem pairs_cells {H : Type} {P : Program} {W : World} {base : Nat} {sp : Nat → Bool} {held : Bool} {enc : TypeId × Value → H} {t e i : TypeId} {n fuel : Nat} {cs : List Value} {p : List MemPlace} {rows : List (Int × Int)}
    (ht : P.underlying t = some (.array n e)) (he : P.underlying e = some (.array 2 i)) (ce : P.cellsOf e = 2) (ci : P.cellsOf i = 1) (hi0 : P.underlying i = some (.int .i64))
    (hd : DataW.trod enc P W base sp held fuel t cs = some (.agg (rows.map fun r => .agg [.lit (.int .i64 r.1), .lit (.int .i64 r.2)]), p)) :
    ∀ k, k < n → cs[k * 2]? = some (.int .i64 (rows.getD k (0, 0)).1) ∧ cs[k * 2 + 1]? = some (.int .i64 (rows.getD k (0, 0)).2) := by
  obtain ⟨xs, m, _, hx, hlen, hxl, hel⟩ := DataW.trod_array ht hd
  simp only [Prod.mk.injEq, DataW.agg.injEq] at hx
  intro k hk
  have h1 := hel k hk
  rw [ce] at h1
  have hxi : xs[k]? = some xs[k] := List.getElem?_eq_getElem (by omega)
  rw [hxi] at h1
  have hri : (rows.map fun r => (DataW.agg [.lit (.int .i64 r.1), .lit (.int .i64 r.2)] : DataW H))[k]? = some xs[k].1 := by
    rw [hx.1, List.getElem?_map, hxi]
    rfl
  have hrl : k < rows.length := by
    rcases Nat.lt_or_ge k rows.length with h | h
    · exact h
    · rw [List.getElem?_eq_none (by simpa using h)] at hri
      cases hri
  rw [List.getElem?_map, List.getElem?_eq_getElem hrl] at hri
  simp only [Option.map_some, Option.some.injEq] at hri
  obtain ⟨ys, m2, _, hy, hsl, hyl, hel2⟩ := DataW.trod_array he h1
  have e0 := hel2 0 (by omega)
  have e1 := hel2 1 (by omega)
  rw [ci] at e0 e1
  rw [ce] at hsl
  obtain ⟨v0, v1, hseg⟩ : ∃ v0 v1, (cs.drop (k * 2)).take 2 = [v0, v1] := by
    match hS : (cs.drop (k * 2)).take 2, hsl with
    | [v0, v1], _ => exact ⟨v0, v1, rfl⟩
  rw [hseg] at e0 e1
  obtain ⟨y0, y1, rfl⟩ : ∃ y0 y1, ys = [y0, y1] := by
    match ys, hyl with
    | [y0, y1], _ => exact ⟨y0, y1, rfl⟩
  simp only [List.getElem?_cons_zero, List.getElem?_cons_succ] at e0 e1
  simp at e0 e1
  obtain ⟨x0, ex0, rfl, _⟩ := DataW.trod_int hi0 e0
  obtain ⟨x1, ex1, rfl, _⟩ := DataW.trod_int hi0 e1
  simp at ex0 ex1
  subst ex0 ex1
  have hy1 := congrArg Prod.fst hy
  rw [hy1] at hri
  simp at hri
  have hg : rows.getD k (0, 0) = rows[k] := by rw [List.getD_eq_getElem?_getD, List.getElem?_eq_getElem hrl]; rfl
  have at' : ∀ j, j < 2 → cs[k * 2 + j]? = ([Value.int .i64 x0, .int .i64 x1] : List Value)[j]? := fun j hj => by
    rw [← hseg, List.getElem?_take, if_pos hj, List.getElem?_drop]
  rw [hg, hri.1, hri.2]
  exact ⟨by simpa using at' 0 (by omega), by simpa using at' 1 (by omega)⟩

theorem g_squareSteps : Tryd.prog.globalNamed "loop.example/g01324/impl.squareSteps" = some 1 := by kernel_rfl

theorem cells_squareSteps {W : World} {rest : List (String × DataW Unit)} (h : laidMet Tryd.prog (("loop.example/g01324/impl.squareSteps", Rows.laid_loop_example_g01324_impl_squareSteps) :: rest) W) :
    ∀ i : Nat, i < 4 → W.cell? ⟨1, i * 2, none⟩ = some (.int .i64 (stepG' 4 i).1) ∧ W.cell? ⟨1, i * 2 + 1, none⟩ = some (.int .i64 (stepG' 4 i).2) := by
  obtain ⟨ps, ⟨g', t', cs, fuel, p, q, hg', ht', hvar, hd, _, _⟩, _⟩ := h
  obtain rfl := Option.some.inj (g_squareSteps.symm.trans hg')
  obtain rfl : 176 = t' := Option.some.inj ((show (Tryd.prog.globals[1]?).map (·.type) = some 176 by kernel_rfl).symm.trans ht')
  have key := pairs_cells (rows := dirsG 4) Tryd.underlying176 Tryd.underlying108 (by kernel_rfl) (by kernel_rfl) Tryd.underlying3 hd
  intro i hi
  have hk := key i hi
  have hv := fun j => World.var?_cell g_squareSteps hvar j
  simp only [Array.getElem?_toList] at hk
  exact ⟨by rw [hv]; exact hk.1, by rw [hv]; exact hk.2⟩

theorem g_triangleSteps : Tryd.prog.globalNamed "loop.example/g01324/impl.triangleSteps" = some 2 := by kernel_rfl

theorem cells_triangleSteps {W : World} {rest : List (String × DataW Unit)} (h : laidMet Tryd.prog (("loop.example/g01324/impl.triangleSteps", Rows.laid_loop_example_g01324_impl_triangleSteps) :: rest) W) :
    ∀ i : Nat, i < 6 → W.cell? ⟨2, i * 2, none⟩ = some (.int .i64 (stepG' 6 i).1) ∧ W.cell? ⟨2, i * 2 + 1, none⟩ = some (.int .i64 (stepG' 6 i).2) := by
  obtain ⟨ps, ⟨g', t', cs, fuel, p, q, hg', ht', hvar, hd, _, _⟩, _⟩ := h
  obtain rfl := Option.some.inj (g_triangleSteps.symm.trans hg')
  obtain rfl : 177 = t' := Option.some.inj ((show (Tryd.prog.globals[2]?).map (·.type) = some 177 by kernel_rfl).symm.trans ht')
  have key := pairs_cells (rows := dirsG 6) Tryd.underlying177 Tryd.underlying108 (by kernel_rfl) (by kernel_rfl) Tryd.underlying3 hd
  intro i hi
  have hk := key i hi
  have hv := fun j => World.var?_cell g_triangleSteps hvar j
  simp only [Array.getElem?_toList] at hk
  exact ⟨by rw [hv]; exact hk.1, by rw [hv]; exact hk.2⟩

theorem stepsW_CountClosed {W : World} (hL : laidMetH Tryd.prog Rows.fnExactCountClosedRow.laid W) (hsh : W.ShapedOpen Tryd.prog) : StepsW W := by
  rw [Go.MakeChecks.laidMetH_plain _ _ _ (by kernel_rfl)] at hL
  have h1 : laidMet Tryd.prog (("loop.example/g01324/impl.squareSteps", Rows.laid_loop_example_g01324_impl_squareSteps) :: ("loop.example/g01324/impl.triangleSteps", Rows.laid_loop_example_g01324_impl_triangleSteps) :: []) W := hL
  exact ⟨cells_squareSteps h1, cells_triangleSteps h1.tail⟩

set_option maxHeartbeats 400000 in
theorem iCountClosed_no1 (g n : Int) (w : World) (hg : ¬ isG g) : Calls Tryd.prog 51 #[.int .i64 g, .int .i64 n] w fun e w' => e = .returned (.tuple #[.int .i64 0, .bool false]) ∧ Below w.heap.size w w' := by
  go_enter Tryd.func51, Tryd.ntmps51
  go_wp2_with (first | (go_at_call 96; (with_reducible refine (isGrid_no _ _ hg).mono ?_); rintro e w1 ⟨rfl, rfl⟩))
  go_ret2
  exact ⟨rfl, Below.refl _ _⟩

set_option maxHeartbeats 400000 in
theorem iCountClosed_no2 (g n : Int) (w : World) (hg : isG g) (hn : n < 0) : Calls Tryd.prog 51 #[.int .i64 g, .int .i64 n] w fun e w' => e = .returned (.tuple #[.int .i64 0, .bool false]) ∧ Below w.heap.size w w' := by
  go_enter Tryd.func51, Tryd.ntmps51
  go_wp2_with (first | (go_at_call 96; (with_reducible refine (isGrid_yes _ _ hg).mono ?_); rintro e w1 ⟨rfl, rfl⟩))
  go_ret2
  exact ⟨rfl, Below.refl _ _⟩

set_option maxHeartbeats 400000 in
theorem iCountClosed_no3 (g n : Int) (w : World) (hg : isG g) (h0 : ¬ n < 0) (hn : 10 < n) : Calls Tryd.prog 51 #[.int .i64 g, .int .i64 n] w fun e w' => e = .returned (.tuple #[.int .i64 0, .bool false]) ∧ Below w.heap.size w w' := by
  go_enter Tryd.func51, Tryd.ntmps51
  go_wp2_with (first | (go_at_call 96; (with_reducible refine (isGrid_yes _ _ hg).mono ?_); rintro e w1 ⟨rfl, rfl⟩))
  go_ret2
  exact ⟨rfl, Below.refl _ _⟩

set_option maxHeartbeats 1000000 in
theorem core_CountClosed (a b n : Int) (k : Bool) (w : World) (hW : StepsW w)
    (hs : ∀ W : World, Calls Tryd.prog 50 #[.int .i64 a, .int .i64 b] W fun e w' => e = .returned (.tuple #[.int .i64 n, .bool k]) ∧ Below W.heap.size W w')
    (hi : ∀ W : World, StepsW W → Calls Tryd.prog 51 #[.int .i64 a, .int .i64 b] W fun e w' => e = .returned (.tuple #[.int .i64 n, .bool k]) ∧ Below W.heap.size W w') :
    Calls Tryd.prog 13 #[.int .i64 a, .int .i64 b] w fun e w' => e = .returned (.bool true) ∧ Below w.heap.size w w' := by
  have HS := Lib.hid hs
  have HI := Lib.hid hi
  have HW := Lib.hid hW
  clear hs hi hW
  go_enter Tryd.func13, Tryd.ntmps13
  go_wp2_with fail
  refine (HS.out _).mono ?_
  rintro e w1 ⟨rfl, hb1⟩
  go_wp2_with fail
  refine (HI.out _ (HW.out.later hb1)).mono ?_
  rintro e w2 ⟨rfl, hb2⟩
  cases k
  all_goals
    go_wp2_with fail
    go_ret
    exact ⟨rfl, hb1.trans (hb2.mono hb1.size)⟩

theorem walk_CountClosed (a b : Int) (w : World) (hW : StepsW w) :
    Calls Tryd.prog 13 #[.int .i64 a, .int .i64 b] w fun e w' => e = .returned (.bool true) ∧ Below w.heap.size w w' := by
  by_cases hg : isG a
  · by_cases h0 : b < 0
    · exact core_CountClosed a b 0 false w hW (fun W => sCountClosed_no2 a b W hg (by omega)) (fun W _ => iCountClosed_no2 a b W hg h0)
    · by_cases h1 : 10 < b
      · exact core_CountClosed a b 0 false w hW (fun W => sCountClosed_no2 a b W hg (by omega)) (fun W _ => iCountClosed_no3 a b W hg h0 h1)
      · obtain ⟨n, rfl⟩ : ∃ n : Nat, b = n := ⟨b.toNat, by omega⟩
        exact core_CountClosed a n (cntP a n homeP) true w hW (fun W => sCountClosed_yes a n W hg (by omega)) (fun W hW' => iCountClosed_yes a n W hg (by omega) hW')
  · exact core_CountClosed a b 0 false w hW (fun W => sCountClosed_no1 a b W hg) (fun W _ => iCountClosed_no1 a b W hg)
end Go.Proofs.YtbgcbokddldmkaaDoor
