/- Slices of pairs of integers (structs of two fields) that a call made itself. Nothing of the program. -/
import Derived.Test.YtlkehdjfmmghjabB3
namespace Go.Proofs.Ytlkehdjfmmghjab
open Go.RowKit

/-- The cells of pairs, one after the other. -/
def flatP : List (Int × Int) → List Int
  | [] => []
  | p :: r => p.1 :: p.2 :: flatP r

theorem flatP_length (xs : List (Int × Int)) : (flatP xs).length = xs.length * 2 := by
  induction xs with
  | nil => rfl
  | cons p r ih => simp [flatP, ih]; omega

theorem flatP_get0 (xs : List (Int × Int)) (k : Nat) : (flatP xs).getD (k * 2) 0 = (xs.getD k (0, 0)).1 := by
  induction xs generalizing k with
  | nil => simp [flatP]
  | cons p r ih =>
    cases k with
    | zero => simp [flatP]
    | succ k =>
      rw [show (k + 1) * 2 = k * 2 + 1 + 1 by omega]
      simpa [flatP] using ih k

theorem flatP_get1 (xs : List (Int × Int)) (k : Nat) : (flatP xs).getD (k * 2 + 1) 0 = (xs.getD k (0, 0)).2 := by
  induction xs generalizing k with
  | nil => simp [flatP]
  | cons p r ih =>
    cases k with
    | zero => simp [flatP]
    | succ k =>
      rw [show (k + 1) * 2 + 1 = k * 2 + 1 + 1 + 1 by omega]
      simpa [flatP] using ih k

theorem flatP_set0 (xs : List (Int × Int)) (k : Nat) (x : Int) : (flatP xs).set (k * 2) x = flatP (xs.set k (x, (xs.getD k (0, 0)).2)) := by
  induction xs generalizing k with
  | nil => simp [flatP]
  | cons p r ih =>
    cases k with
    | zero => simp [flatP]
    | succ k =>
      rw [show (k + 1) * 2 = k * 2 + 1 + 1 by omega]
      simpa [flatP] using ih k

theorem flatP_set1 (xs : List (Int × Int)) (k : Nat) (x : Int) : (flatP xs).set (k * 2 + 1) x = flatP (xs.set k ((xs.getD k (0, 0)).1, x)) := by
  induction xs generalizing k with
  | nil => simp [flatP]
  | cons p r ih =>
    cases k with
    | zero => simp [flatP]
    | succ k =>
      rw [show (k + 1) * 2 + 1 = k * 2 + 1 + 1 + 1 by omega]
      simpa [flatP] using ih k

theorem flatP_append (xs ys : List (Int × Int)) : flatP (xs ++ ys) = flatP xs ++ flatP ys := by
  induction xs with
  | nil => rfl
  | cons p r ih => simp [flatP, ih]

/-- The slice v holds the pairs xs. -/
def Pairs (w : World) (B : Nat) (e : TypeId) (v : Value) (xs : List (Int × Int)) : Prop := w.ownsRow B e 2 v xs.length ((flatP xs).map (Value.int .i64))

def PairsIn (e : TypeId) (w : World) (B T : Nat) (v : Value) (xs : List (Int × Int)) : Prop := Pairs w B e v xs ∧ ∀ k, v.ownBlock = some k → k < T

theorem Pairs.len {w : World} {B g n cap : Nat} {e : TypeId} {xs : List (Int × Int)} (h : Pairs w B e (.slice (some ⟨g, 0, none⟩) n cap) xs) : n = xs.length := by
  rcases h.2 with ⟨hv, _⟩ | ⟨_, _, _, hv, _⟩
  · cases hv
  · cases hv; rfl

theorem Pairs.cell0 {w : World} {B g n cap : Nat} {e : TypeId} {xs : List (Int × Int)} (h : Pairs w B e (.slice (some ⟨g, 0, none⟩) n cap) xs) (i : Nat) (hi : i < xs.length) : w.cell? ⟨g, i * 2, none⟩ = some (.int .i64 (xs.getD i (0, 0)).1) := by
  obtain rfl := h.len
  rw [World.ownsRow.cellAt h (i * 2) (by omega), List.getElem?_map, List.getElem?_eq_getElem (by rw [flatP_length]; omega)]
  have := flatP_get0 xs i
  rw [List.getD_eq_getElem?_getD, List.getElem?_eq_getElem (by rw [flatP_length]; omega)] at this
  simpa using this

theorem Pairs.cell1 {w : World} {B g n cap : Nat} {e : TypeId} {xs : List (Int × Int)} (h : Pairs w B e (.slice (some ⟨g, 0, none⟩) n cap) xs) (i : Nat) (hi : i < xs.length) : w.cell? ⟨g, i * 2 + 1, none⟩ = some (.int .i64 (xs.getD i (0, 0)).2) := by
  obtain rfl := h.len
  rw [World.ownsRow.cellAt h (i * 2 + 1) (by omega), List.getElem?_map, List.getElem?_eq_getElem (by rw [flatP_length]; omega)]
  have := flatP_get1 xs i
  rw [List.getD_eq_getElem?_getD, List.getElem?_eq_getElem (by rw [flatP_length]; omega)] at this
  simpa using this

theorem Pairs.frozenAt {w : World} {B g n cap : Nat} {e : TypeId} {xs : List (Int × Int)} (h : Pairs w B e (.slice (some ⟨g, 0, none⟩) n cap) xs) (i : Nat) : w.frozen? ⟨g, i, none⟩ = false := by
  obtain rfl := h.len
  exact World.ownsRow.frozenAt h i

theorem Pairs.stored0 {w : World} {B g n cap : Nat} {e : TypeId} {xs : List (Int × Int)} (h : Pairs w B e (.slice (some ⟨g, 0, none⟩) n cap) xs) (j : Nat) (x : Int) :
    Pairs (w.setCell ⟨g, j * 2, none⟩ (.int .i64 x)) B e (.slice (some ⟨g, 0, none⟩) n cap) (xs.set j (x, (xs.getD j (0, 0)).2)) ∧ w.grownBy (w.setCell ⟨g, j * 2, none⟩ (.int .i64 x)) (some g) := by
  obtain rfl := h.len
  have := World.ownsRow.stored h (j * 2) (.int .i64 x)
  unfold Pairs
  rw [List.length_set, ← flatP_set0, List.map_set]
  exact this

theorem Pairs.stored1 {w : World} {B g n cap : Nat} {e : TypeId} {xs : List (Int × Int)} (h : Pairs w B e (.slice (some ⟨g, 0, none⟩) n cap) xs) (j : Nat) (x : Int) :
    Pairs (w.setCell ⟨g, j * 2 + 1, none⟩ (.int .i64 x)) B e (.slice (some ⟨g, 0, none⟩) n cap) (xs.set j ((xs.getD j (0, 0)).1, x)) ∧ w.grownBy (w.setCell ⟨g, j * 2 + 1, none⟩ (.int .i64 x)) (some g) := by
  obtain rfl := h.len
  have := World.ownsRow.stored h (j * 2 + 1) (.int .i64 x)
  unfold Pairs
  rw [List.length_set, ← flatP_set1, List.map_set]
  exact this

theorem Pairs.view {w : World} {B : Nat} {e : TypeId} {v : Value} {xs : List (Int × Int)} (h : Pairs w B e v xs) :
    ∃ (a0 : Option Addr) (cap g : Nat), v = .slice a0 xs.length cap ∧ (0 < xs.length → a0 = some ⟨g, 0, none⟩) ∧ xs.length ≤ maxLen ∧
      (∀ i, i < xs.length → w.cell? ⟨g, i * 2, none⟩ = some (.int .i64 (xs.getD i (0, 0)).1)) ∧ (∀ i, i < xs.length → w.cell? ⟨g, i * 2 + 1, none⟩ = some (.int .i64 (xs.getD i (0, 0)).2)) := by
  have h0 := h
  obtain ⟨hl, h1 | ⟨g, cap, cur, hv, hB, hg, hn, hm, hs, ht⟩⟩ := h0
  · obtain ⟨hv, hn⟩ := h1
    exact ⟨none, 0, 0, by rw [hn]; exact hv, fun h => by omega, by omega, fun i hi => by omega, fun i hi => by omega⟩
  · subst hv
    exact ⟨some ⟨g, 0, none⟩, cap, g, rfl, fun _ => rfl, by omega, fun i hi => h.cell0 i hi, fun i hi => h.cell1 i hi⟩

theorem Pairs.own {w : World} {B : Nat} {e : TypeId} {v : Value} {xs : List (Int × Int)} (h : Pairs w B e v xs) : ∀ k, v.ownBlock = some k → B ≤ k ∧ k < w.heap.size := World.ownsRow.lt h

theorem Pairs.drewN {w : World} {B : Nat} {e : TypeId} {v : Value} {xs : List (Int × Int)} (h : Pairs w B e v xs) (n : Nat) : Pairs (w.drewN n) B e v xs := h

theorem PairsIn.pairs {e : TypeId} {w : World} {B T : Nat} {v : Value} {xs : List (Int × Int)} (h : PairsIn e w B T v xs) : Pairs w B e v xs := h.1

theorem PairsIn.own {e : TypeId} {w : World} {B T : Nat} {v : Value} {xs : List (Int × Int)} (h : PairsIn e w B T v xs) : ∀ k, v.ownBlock = some k → B ≤ k ∧ k < T :=
  fun k hk => ⟨(h.1.own k hk).1, h.2 k hk⟩

theorem PairsIn.keep {e : TypeId} {w w' : World} {B T : Nat} {v : Value} {xs : List (Int × Int)} (h : PairsIn e w B T v xs) (hs : Same B T w w') : PairsIn e w' B T v xs := by
  refine ⟨⟨h.1.1, ?_⟩, h.2⟩
  rcases h.1.2 with h1 | ⟨g, cap, cur, hv, hB, hg, hn, hm, hz, ht⟩
  · exact .inl h1
  · refine .inr ⟨g, cap, cur, hv, hB, ?_, hn, hm, hz, ht⟩
    rw [hs g hB (h.2 g (by rw [hv]; rfl)), hg]

theorem PairsIn.nil (e : TypeId) (w : World) (B T : Nat) : PairsIn e w B T (.slice none 0 0) [] := ⟨World.ownsRow_nil _ _ _ _, fun k hk => by simp [Value.ownBlock] at hk⟩

theorem Pairs.inn {e : TypeId} {w : World} {B : Nat} {v : Value} {xs : List (Int × Int)} (h : Pairs w B e v xs) : PairsIn e w B w.heap.size v xs := ⟨h, fun k hk => (h.own k hk).2⟩

/-- The marks of pairs. -/
def markP (m : Int) (n : Nat) : List (Int × Int) := (List.range n).map fun (i : Nat) => (m + 2 * (i : Int), m + 2 * (i : Int) + 1)

theorem markP_length (m : Int) (n : Nat) : (markP m n).length = n := by simp [markP]

theorem markP_get (m : Int) (n i : Nat) (h : i < n) : (markP m n).getD i (0, 0) = (m + 2 * (i : Int), m + 2 * (i : Int) + 1) := by
  simp [markP, List.getD, List.getElem?_map, List.getElem?_range h]

def markedP (m : Int) (xs : List (Int × Int)) (k : Nat) : List (Int × Int) := markP m k ++ xs.drop k

theorem markedP_zero (m : Int) (xs : List (Int × Int)) : markedP m xs 0 = xs := by simp [markedP, markP]

theorem markedP_all (m : Int) (xs : List (Int × Int)) : markedP m xs xs.length = markP m xs.length := by simp [markedP]

theorem markedP_length (m : Int) (xs : List (Int × Int)) (k : Nat) (h : k ≤ xs.length) : (markedP m xs k).length = xs.length := by
  simp [markedP, markP_length]; omega

theorem markedP_set (m : Int) (xs : List (Int × Int)) (k : Nat) (h : k < xs.length) : (markedP m xs k).set k (m + 2 * (k : Int), m + 2 * (k : Int) + 1) = markedP m xs (k + 1) := by
  unfold markedP
  rw [List.set_append_right _ _ (by simp [markP_length]), markP_length, Nat.sub_self, List.drop_eq_getElem_cons h, List.set_cons_zero]
  simp [markP, List.range_succ]

end Go.Proofs.Ytlkehdjfmmghjab
