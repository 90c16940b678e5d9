/- The pairs of chords that cross: of the program and of the model. -/
import Derived.Test.YtnldnjgnpdicnaaK2
import Derived.Test.YtnldnjgnpdicnaaV7
import Derived.Test.YtnldnjgnpdicnaaP4
namespace Go.Proofs.Ytnldnjgnpdicnaa
open Go.RowKit

/-- The pairs of chord i with those behind it, below j. -/
def rowP (xs : List (Int × Int)) (i : Nat) : Nat → List (List Int)
  | 0 => []
  | j + 1 => rowP xs i j ++ if i < j ∧ crossP (xs.getD i (0, 0)) (xs.getD j (0, 0)) = true then [[(i : Int), (j : Int)]] else []

theorem rowP_none (xs : List (Int × Int)) (i j : Nat) (h : j ≤ i + 1) : rowP xs i j = [] := by
  induction j with
  | zero => rfl
  | succ j ih => rw [rowP, ih (by omega), if_neg (by omega)]; rfl

theorem rowP_yes (xs : List (Int × Int)) (i j : Nat) (h : i < j) (hc : crossP (xs.getD i (0, 0)) (xs.getD j (0, 0)) = true) : rowP xs i (j + 1) = rowP xs i j ++ [[(i : Int), (j : Int)]] := by
  rw [rowP, if_pos ⟨h, hc⟩]

theorem rowP_no (xs : List (Int × Int)) (i j : Nat) (hc : crossP (xs.getD i (0, 0)) (xs.getD j (0, 0)) = false) : rowP xs i (j + 1) = rowP xs i j := by
  rw [rowP, if_neg (by rw [hc]; simp), List.append_nil]

def allP (xs : List (Int × Int)) : Nat → List (List Int)
  | 0 => []
  | i + 1 => allP xs i ++ rowP xs i xs.length

theorem rowP_length (xs : List (Int × Int)) (i j : Nat) : (rowP xs i j).length ≤ j := by
  induction j with
  | zero => simp [rowP]
  | succ j ih => rw [rowP]; split <;> simp <;> omega

theorem allP_length (xs : List (Int × Int)) (i : Nat) : (allP xs i).length ≤ i * xs.length := by
  induction i with
  | zero => simp [allP]
  | succ i ih =>
    have := rowP_length xs i xs.length
    rw [allP, List.length_append, Nat.succ_mul]
    omega

theorem rowP_two (xs : List (Int × Int)) (i j : Nat) : ∀ r ∈ rowP xs i j, r.length = 2 := by
  induction j with
  | zero => simp [rowP]
  | succ j ih =>
    rw [rowP]
    intro r hr
    rcases List.mem_append.1 hr with h | h
    · exact ih r h
    · split at h
      · simp at h; rw [h]; rfl
      · simp at h

theorem allP_two (xs : List (Int × Int)) (i : Nat) : ∀ r ∈ allP xs i, r.length = 2 := by
  induction i with
  | zero => simp [allP]
  | succ i ih =>
    rw [allP]
    intro r hr
    rcases List.mem_append.1 hr with h | h
    · exact ih r h
    · exact rowP_two xs i _ r h

theorem cellsOf_two (xss : List (List Int)) (h : ∀ r ∈ xss, r.length = 2) : cellsOf xss = 2 * xss.length := by
  induction xss with
  | nil => rfl
  | cons x r ih =>
    have e : cellsOf (x :: r) = x.length + cellsOf r := by simp [cellsOf]
    rw [e, ih fun y hy => h y (List.mem_cons_of_mem _ hy), h x List.mem_cons_self, List.length_cons]
    omega

theorem pairs_small (xs : List (Int × Int)) (h : xs.length ≤ 40) : (allP xs xs.length).length ≤ 1600 ∧ cellsOf (allP xs xs.length) ≤ 3200 := by
  have h1 := allP_length xs xs.length
  have h2 : xs.length * xs.length ≤ 40 * 40 := Nat.mul_le_mul h h
  rw [cellsOf_two _ (allP_two xs _)]
  omega

theorem box_apart {w : World} {B : Nat} {e : TypeId} {v : Value} {n : Nat} {vs : List Value} (h : w.ownsRow B e 1 v n vs) {b : Nat} {cs : Array Value} {t : TypeId} {fr : Nat × Nat} (hb : w.heap[b]? = some (.cells cs t fr)) (hne : t ≠ e) : v.ownBlock ≠ some b := by
  intro hv
  obtain ⟨cur, hc⟩ := ownsRow_block h hv
  rw [hb] at hc
  simp only [Option.some.injEq, Obj.cells.injEq] at hc
  exact hne hc.2.1

theorem chord_order {p : Int} {xs : List (Int × Int)} (h : goodC p xs) : ∀ k, k < xs.length → (xs.getD k (0, 0)).1 < (xs.getD k (0, 0)).2 := fun k hk => (h.2.2 k hk).1.2.1

theorem info_ints : (Try.prog.info? 33).map (fun i => (i.zero, i.size, i.bytes)) = some (some (.slice none 0 0), 1, 24) := by kernel_rfl

end Go.Proofs.Ytnldnjgnpdicnaa
