/- Arrays of integers held against each other. Nothing of the program. -/
import Derived.Test.YtnldnjgnpdicnaaBA
import Derived.ChangeKeysEq
import Derived.Shelf.SlicesE.Kit
namespace Go.Proofs.Ytnldnjgnpdicnaa
open Go.RowKit

/-- An array of integers as cells. -/
def intCells (xs : List Int) : Array Value := (xs.map (Value.int .i64)).toArray

theorem run_part_int {P : Program} (w : World) {e : TypeId} (he : P.underlying e = some (.int .i64)) (xs : List Int) (j : Nat) (hj : j < xs.length) :
    (part e (intCells xs) (j * 1)).run P w = .ok (.int .i64 (xs.getD j 0)) w := by
  have ha : (isAgg e).run P w = .ok false w := by
    unfold isAgg
    rw [Sem.run_bind, run_underlying he w]
    simp
  have hx : (intCells xs)[j]? = some (.int .i64 (xs.getD j 0)) := by
    unfold intCells
    rw [List.getElem?_toArray, List.getElem?_map, List.getElem?_eq_getElem hj]
    simp [List.getD, List.getElem?_eq_getElem hj]
  unfold part
  rw [Sem.run_bind, ha]
  simp [hx]

theorem run_eqItems_ints {P : Program} (w : World) (d : Nat) {e : TypeId} (he : P.underlying e = some (.int .i64)) (xs ys : List Int) : ∀ (is : List Nat), (∀ i ∈ is, i < xs.length ∧ i < ys.length) →
    (Op.eqItems (d + 1) e 1 (intCells xs) (intCells ys) is).run P w = .ok (is.all fun i => xs.getD i 0 == ys.getD i 0) w
  | [], _ => by simp [Op.eqItems]
  | i :: is, h => by
    have h1 := h i (by simp)
    have ih := run_eqItems_ints w d he xs ys is (fun j hj => h j (by simp [hj]))
    have he2 : (Op.equalIn (d + 1) e (.int .i64 (xs.getD i 0)) (.int .i64 (ys.getD i 0))).run P w = .ok (xs.getD i 0 == ys.getD i 0) w := by
      simp [Op.equalIn, run_underlying he]
    simp only [Op.eqItems, Sem.run_bind, run_part_int w he xs i h1.1, run_part_int w he ys i h1.2, Result.andThen_ok, he2]
    cases hb : (xs.getD i 0 == ys.getD i 0)
    · simp only [Bool.not_false, if_true, Sem.run_pure, List.all_cons, hb, Bool.false_and]
    · simp only [Bool.not_true, Bool.false_eq_true, if_false, ih, List.all_cons, hb, Bool.true_and]

/-- '==' and '!=' at arrays of n integers. -/
theorem run_eql_ints {P : Program} (w : World) {t e : TypeId} {n : Nat} {i : TypeInfo} (ht : P.underlying t = some (.array n e)) (hi : P.info? e = some i) (he : P.underlying e = some (.int .i64)) (hc : P.cellsOf e = 1) (xs ys : List Int) (hx : xs.length = n) (hy : ys.length = n) (b : Bool)
    (hb : ((List.range n).all fun i => xs.getD i 0 == ys.getD i 0) = b) :
    (binOp .eql t (.agg (intCells xs)) (.agg (intCells ys))).run P w = .ok (.bool b) w ∧ (binOp .neq t (.agg (intCells xs)) (.agg (intCells ys))).run P w = .ok (.bool (!b)) w := by
  have h : (Op.equalIn (9999 + 1) t (.agg (intCells xs)) (.agg (intCells ys))).run P w = .ok b w := by
    rw [run_equalIn_array w 9999 (intCells xs) (intCells ys) ht hi, hc, run_eqItems_ints w 9998 he xs ys _ (fun i hi => by have := List.mem_range.1 hi; omega), hb]
  constructor
  · simp only [binOp]
    simp [Op.equal, Op.maxDepth, h]
  · simp only [binOp]
    simp [Op.equal, Op.maxDepth, h]

theorem all_getD_eq (xs ys : List Int) (n : Nat) (hx : xs.length = n) (hy : ys.length = n) : ((List.range n).all fun i => xs.getD i 0 == ys.getD i 0) = decide (xs = ys) := by
  rw [Bool.eq_iff_iff, List.all_eq_true, decide_eq_true_eq]
  constructor
  · intro h
    apply List.ext_getElem (by omega)
    intro i h1 h2
    have := h i (List.mem_range.2 (by omega))
    rw [beq_iff_eq, List.getD, List.getD, List.getElem?_eq_getElem h1, List.getElem?_eq_getElem h2] at this
    exact this
  · rintro rfl i _
    simp

theorem intCells_size (xs : List Int) : (intCells xs).size = xs.length := by simp [intCells]

theorem intCells_set (xs : List Int) (j : Nat) (x : Int) : (intCells xs).setIfInBounds j (.int .i64 x) = intCells (xs.set j x) := by
  simp [intCells, List.map_set]

theorem intCells_get (xs : List Int) (j : Nat) (h : j < xs.length) : (intCells xs)[j]? = some (.int .i64 (xs.getD j 0)) := by
  unfold intCells
  rw [List.getElem?_toArray, List.getElem?_map, List.getElem?_eq_getElem h]
  simp [List.getD, List.getElem?_eq_getElem h]

theorem intCells_one (xs : List Int) : (intCells xs).all (·.oneCell') = true := by
  unfold intCells
  rw [List.all_toArray, List.all_eq_true]
  intro v hv
  obtain ⟨x, _, rfl⟩ := List.mem_map.1 hv
  rfl

end Go.Proofs.Ytnldnjgnpdicnaa
