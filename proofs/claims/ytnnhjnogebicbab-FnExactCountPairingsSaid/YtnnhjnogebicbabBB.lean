/- Arrays of bools held against each other. Nothing of the program. -/
import Derived.Test.YtnnhjnogebicbabB4
import Derived.ChangeKeysEq
import Derived.Shelf.SlicesE.Kit
import Derived.Laws.CopyOwn
namespace Go.Proofs.Ytnnhjnogebicbab
open Go.RowKit

/-- An array of bools as cells. -/
def boolCells (xs : List Bool) : Array Value := (xs.map Value.bool).toArray

theorem run_part_bool {P : Program} (w : World) {e : TypeId} (he : P.underlying e = some .bool) (xs : List Bool) (j : Nat) (hj : j < xs.length) :
    (part e (boolCells xs) (j * 1)).run P w = .ok (.bool (xs.getD j false)) w := by
  have ha : (isAgg e).run P w = .ok false w := by
    unfold isAgg
    rw [Sem.run_bind, run_underlying he w]
    simp
  have hx : (boolCells xs)[j]? = some (.bool (xs.getD j false)) := by
    unfold boolCells
    rw [List.getElem?_toArray, List.getElem?_map, List.getElem?_eq_getElem hj]
    simp [List.getD, List.getElem?_eq_getElem hj]
  unfold part
  rw [Sem.run_bind, ha]
  simp [hx]

theorem run_eqItems_bools {P : Program} (w : World) (d : Nat) {e : TypeId} (he : P.underlying e = some .bool) (xs ys : List Bool) : ∀ (is : List Nat), (∀ i ∈ is, i < xs.length ∧ i < ys.length) →
    (Op.eqItems (d + 1) e 1 (boolCells xs) (boolCells ys) is).run P w = .ok (is.all fun i => xs.getD i false == ys.getD i false) w
  | [], _ => by simp [Op.eqItems]
  | i :: is, h => by
    have h1 := h i (by simp)
    have ih := run_eqItems_bools w d he xs ys is (fun j hj => h j (by simp [hj]))
    have he2 : (Op.equalIn (d + 1) e (.bool (xs.getD i false)) (.bool (ys.getD i false))).run P w = .ok (xs.getD i false == ys.getD i false) w := by
      simp [Op.equalIn, run_underlying he]
    simp only [Op.eqItems, Sem.run_bind, run_part_bool w he xs i h1.1, run_part_bool w he ys i h1.2, Result.andThen_ok, he2]
    cases hb : (xs.getD i false == ys.getD i false)
    · simp only [Bool.not_false, if_true, Sem.run_pure, List.all_cons, hb, Bool.false_and]
    · simp only [Bool.not_true, Bool.false_eq_true, if_false, ih, List.all_cons, hb, Bool.true_and]

theorem all_getB_eq (xs ys : List Bool) (n : Nat) (hx : xs.length = n) (hy : ys.length = n) : ((List.range n).all fun i => xs.getD i false == ys.getD i false) = decide (xs = ys) := by
  rw [Bool.eq_iff_iff, List.all_eq_true, decide_eq_true_eq]
  constructor
  · intro h
    apply List.ext_getElem (by omega)
    intro i h1 h2
    have := h i (List.mem_range.2 (by omega))
    rw [beq_iff_eq, List.getD, List.getD, List.getElem?_eq_getElem h1, List.getElem?_eq_getElem h2] at this
    exact this
  · rintro rfl i _
    simp

/-- '==' at arrays of n bools. -/
theorem run_eql_bools {P : Program} (w : World) {t e : TypeId} {n : Nat} {i : TypeInfo} (ht : P.underlying t = some (.array n e)) (hi : P.info? e = some i) (he : P.underlying e = some .bool) (hc : P.cellsOf e = 1) (xs ys : List Bool) (hx : xs.length = n) (hy : ys.length = n) (b : Bool)
    (hb : decide (xs = ys) = b) :
    (binOp .eql t (.agg (boolCells xs)) (.agg (boolCells ys))).run P w = .ok (.bool b) w := by
  have h : (Op.equalIn (9999 + 1) t (.agg (boolCells xs)) (.agg (boolCells ys))).run P w = .ok b w := by
    rw [run_equalIn_array w 9999 (boolCells xs) (boolCells ys) ht hi, hc, run_eqItems_bools w 9998 he xs ys _ (fun i hi => by have := List.mem_range.1 hi; omega), all_getB_eq xs ys n hx hy, hb]
  simp only [binOp]
  simp [Op.equal, Op.maxDepth, h]

theorem boolCells_size (xs : List Bool) : (boolCells xs).size = xs.length := by simp [boolCells]

theorem boolCells_set (xs : List Bool) (j : Nat) (x : Bool) : (boolCells xs).setIfInBounds j (.bool x) = boolCells (xs.set j x) := by
  simp [boolCells, List.map_set]

theorem boolCells_get (xs : List Bool) (j : Nat) (h : j < xs.length) : (boolCells xs)[j]? = some (.bool (xs.getD j false)) := by
  unfold boolCells
  rw [List.getElem?_toArray, List.getElem?_map, List.getElem?_eq_getElem h]
  simp [List.getD, List.getElem?_eq_getElem h]

theorem boolCells_one (xs : List Bool) : (boolCells xs).all (·.oneCell') = true := by
  unfold boolCells
  rw [List.all_toArray, List.all_eq_true]
  intro v hv
  obtain ⟨x, _, rfl⟩ := List.mem_map.1 hv
  rfl

end Go.Proofs.Ytnnhjnogebicbab
