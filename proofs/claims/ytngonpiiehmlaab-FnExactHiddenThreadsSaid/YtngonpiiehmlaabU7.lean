/- Points under threads. -/
import Derived.Test.YtngonpiiehmlaabU6
namespace Go.Proofs.Ytngonpiiehmlaab
open Go.RowKit
set_option linter.unusedVariables false

/-- The point x, y is under a thread. -/
def underP (x y : Int) (p : Int × Int) : Bool := decide (x * p.2 + y * p.1 ≤ p.1 * p.2)

theorem first_any {α : Type} (z : α) (p : α → Bool) (xs : List α) : (xs.any p = false ∧ ∀ i, i < xs.length → p (xs.getD i z) = false) ∨ (xs.any p = true ∧ ∃ j, j < xs.length ∧ p (xs.getD j z) = true ∧ ∀ i, i < j → p (xs.getD i z) = false) := by
  induction xs with
  | nil => exact .inl ⟨rfl, fun i h => by simp at h⟩
  | cons a r ih =>
    cases ha : p a with
    | true => exact .inr ⟨by simp [ha], 0, by simp, by simpa using ha, fun i h => by omega⟩
    | false =>
      rcases ih with ⟨h1, h2⟩ | ⟨h1, j, hj, h2, h3⟩
      · refine .inl ⟨by simp only [List.any_cons, ha, h1]; rfl, fun i hi => ?_⟩
        cases i with
        | zero => simpa using ha
        | succ i => simpa using h2 i (by simpa using hi)
      · refine .inr ⟨by simp only [List.any_cons, ha, h1]; rfl, j + 1, by simpa using hj, by simpa using h2, fun i hi => ?_⟩
        cases i with
        | zero => simpa using ha
        | succ i => simpa using h3 i (by omega)

set_option maxHeartbeats 1000000 in
theorem sgUnder_all (u : Value) (xs : List (Int × Int)) (B T : Nat) (w : World) (h : PairsIn 55 w B T u xs) (hT : T ≤ w.heap.size) (x y : Int) (hg : goodT xs) (hx : 0 ≤ x ∧ x ≤ 100) (hy : 0 ≤ y ∧ y ≤ 100) (hp : ∀ i, i < xs.length → underP x y (xs.getD i (0, 0)) = false) :
    Calls Try.prog 48 #[u, .int .i64 x, .int .i64 y] w fun e w' => e = .returned (.bool false) ∧ Below w.heap.size w w' := by
  obtain ⟨a1, c1, g1, rfl, ha1, hm, hx1, hy1'⟩ := h.pairs.view
  unfold maxLen at hm
  have X := Lib.hid hx1
  have Y := Lib.hid hy1'
  have HA := Lib.hid ha1
  have HG := Lib.hid hg
  have HP := Lib.hid hp
  have x1 := hx.1
  have x2 := hx.2
  have y1 := hy.1
  have y2 := hy.2
  
  clear h hx1 hy1' ha1 hg hp hx hy 
  go_enter Try.func48, Try.ntmps48
  go_wp2
  go_loopw [11] (fun i wr => ∃ k : Nat, k ≤ xs.length ∧ i = .int .i64 k ∧ Below w.heap.size w wr) (fun i _ => xs.length - (intOf i).toNat)
  case atStart => exact ⟨0, by omega, rfl, Below.refl _ _⟩
  case round =>
    obtain ⟨k, hk, rfl, hB⟩ := hrel
    have hz := hB.size
    by_cases hlt : k < xs.length
    · skip
      have ux := HP.out k hlt
      obtain ⟨p, q, hpq, p1, p2, q1, q2⟩ := thread_letters HG.out k (by omega)
      obtain rfl := HA.out (by omega)
      have e0 : wr.cell? ⟨g1, k * 2, none⟩ = _ := (hB.cell (p := ⟨g1, k * 2, none⟩) (World.block_lt_of_cell? w _ (X.out k (by omega)))).trans (X.out k (by omega))
      have e1 : wr.cell? ⟨g1, k * 2 + 1, none⟩ = _ := (hB.cell (p := ⟨g1, k * 2 + 1, none⟩) (World.block_lt_of_cell? w _ (Y.out k (by omega)))).trans (Y.out k (by omega))
      rw [hpq] at e0 e1 ux
      simp only at e0 e1
      have hdec : decide (x * q + y * p ≤ p * q) = false := ux
      have m1 := (prod100 x q (by omega) (by omega)).1
      have m2 := (prod100 x q (by omega) (by omega)).2
      have m3 := (prod100 y p (by omega) (by omega)).1
      have m4 := (prod100 y p (by omega) (by omega)).2
      have m5 := (prod100 p q (by omega) (by omega)).1
      have m6 := (prod100 p q (by omega) (by omega)).2
      clear ux hpq
      go_wp2
      go_roundw
      case rel => exact ⟨k + 1, by omega, by go_num, by go_grown⟩
      case measure => simp [intOf]; omega
    · obtain rfl : k = xs.length := by omega
      go_wp2
      go_ret
      exact ⟨rfl, hB⟩

set_option maxHeartbeats 1000000 in
theorem sgUnder_some (u : Value) (xs : List (Int × Int)) (B T : Nat) (w : World) (h : PairsIn 55 w B T u xs) (hT : T ≤ w.heap.size) (x y : Int) (hg : goodT xs) (hx : 0 ≤ x ∧ x ≤ 100) (hy : 0 ≤ y ∧ y ≤ 100) (j : Nat) (hj : j < xs.length) (hy1 : underP x y (xs.getD j (0, 0)) = true) (hp : ∀ i, i < j → underP x y (xs.getD i (0, 0)) = false) :
    Calls Try.prog 48 #[u, .int .i64 x, .int .i64 y] w fun e w' => e = .returned (.bool true) ∧ Below w.heap.size w w' := by
  obtain ⟨a1, c1, g1, rfl, ha1, hm, hx1, hy1'⟩ := h.pairs.view
  unfold maxLen at hm
  have X := Lib.hid hx1
  have Y := Lib.hid hy1'
  have HA := Lib.hid ha1
  have HG := Lib.hid hg
  have HP := Lib.hid hp
  have x1 := hx.1
  have x2 := hx.2
  have y1 := hy.1
  have y2 := hy.2
  have HJ := Lib.hid hy1
  clear h hx1 hy1' ha1 hg hp hx hy hy1
  go_enter Try.func48, Try.ntmps48
  go_wp2
  go_loopw [11] (fun i wr => ∃ k : Nat, k ≤ j ∧ i = .int .i64 k ∧ Below w.heap.size w wr) (fun i _ => xs.length - (intOf i).toNat)
  case atStart => exact ⟨0, by omega, rfl, Below.refl _ _⟩
  case round =>
    obtain ⟨k, hk, rfl, hB⟩ := hrel
    have hz := hB.size
    by_cases hlt : k < j
    · skip
      have ux := HP.out k hlt
      obtain ⟨p, q, hpq, p1, p2, q1, q2⟩ := thread_letters HG.out k (by omega)
      obtain rfl := HA.out (by omega)
      have e0 : wr.cell? ⟨g1, k * 2, none⟩ = _ := (hB.cell (p := ⟨g1, k * 2, none⟩) (World.block_lt_of_cell? w _ (X.out k (by omega)))).trans (X.out k (by omega))
      have e1 : wr.cell? ⟨g1, k * 2 + 1, none⟩ = _ := (hB.cell (p := ⟨g1, k * 2 + 1, none⟩) (World.block_lt_of_cell? w _ (Y.out k (by omega)))).trans (Y.out k (by omega))
      rw [hpq] at e0 e1 ux
      simp only at e0 e1
      have hdec : decide (x * q + y * p ≤ p * q) = false := ux
      have m1 := (prod100 x q (by omega) (by omega)).1
      have m2 := (prod100 x q (by omega) (by omega)).2
      have m3 := (prod100 y p (by omega) (by omega)).1
      have m4 := (prod100 y p (by omega) (by omega)).2
      have m5 := (prod100 p q (by omega) (by omega)).1
      have m6 := (prod100 p q (by omega) (by omega)).2
      clear ux hpq
      go_wp2
      go_roundw
      case rel => exact ⟨k + 1, by omega, by go_num, by go_grown⟩
      case measure => simp [intOf]; omega
    · obtain rfl : k = j := by omega
      have ux := HJ.out
      obtain ⟨p, q, hpq, p1, p2, q1, q2⟩ := thread_letters HG.out k (by omega)
      obtain rfl := HA.out (by omega)
      have e0 : wr.cell? ⟨g1, k * 2, none⟩ = _ := (hB.cell (p := ⟨g1, k * 2, none⟩) (World.block_lt_of_cell? w _ (X.out k (by omega)))).trans (X.out k (by omega))
      have e1 : wr.cell? ⟨g1, k * 2 + 1, none⟩ = _ := (hB.cell (p := ⟨g1, k * 2 + 1, none⟩) (World.block_lt_of_cell? w _ (Y.out k (by omega)))).trans (Y.out k (by omega))
      rw [hpq] at e0 e1 ux
      simp only at e0 e1
      have hdec : decide (x * q + y * p ≤ p * q) = true := ux
      have m1 := (prod100 x q (by omega) (by omega)).1
      have m2 := (prod100 x q (by omega) (by omega)).2
      have m3 := (prod100 y p (by omega) (by omega)).1
      have m4 := (prod100 y p (by omega) (by omega)).2
      have m5 := (prod100 p q (by omega) (by omega)).1
      have m6 := (prod100 p q (by omega) (by omega)).2
      clear ux hpq
      go_wp2
      go_ret
      exact ⟨rfl, by go_grown⟩

theorem sgUnder_any (u : Value) (xs : List (Int × Int)) (B T : Nat) (w : World) (h : PairsIn 55 w B T u xs) (hT : T ≤ w.heap.size) (x y : Int) (hg : goodT xs) (hx : 0 ≤ x ∧ x ≤ 100) (hy : 0 ≤ y ∧ y ≤ 100) :
    Calls Try.prog 48 #[u, .int .i64 x, .int .i64 y] w fun e w' => e = .returned (.bool (xs.any (underP x y))) ∧ Below w.heap.size w w' := by
  rcases first_any (0, 0) (underP x y) xs with ⟨h1, h2⟩ | ⟨h1, j, hj, h2, h3⟩
  · rw [h1]; exact sgUnder_all u xs B T w h hT x y hg hx hy h2
  · rw [h1]; exact sgUnder_some u xs B T w h hT x y hg hx hy j hj h2 h3

end Go.Proofs.Ytngonpiiehmlaab
