/- Pairings by crossings: the model's walk. -/
import Derived.Test.YtnnhjnogebicbabQA
import Derived.Test.YtnnhjnogebicbabZC
import Derived.Test.YtnnhjnogebicbabW1
import Derived.Test.YtnnhjnogebicbabBB
import Derived.Test.YtnnhjnogebicbabP5
import Derived.Test.YtnnhjnogebicbabP6
import Derived.Test.YtnnhjnogebicbabB3
namespace Go.Proofs.Ytnnhjnogebicbab
open Go.RowKit
set_option linter.unusedVariables false

theorem info_chordQ : (Try.prog.info? 64).map (fun i => (i.zero, i.size, i.bytes)) = some (some (.agg #[.int .i64 0, .int .i64 0]), 2, 16) := by kernel_rfl

/-- The bools U lie in block g. -/
def BoolsAt (w : World) (g : Nat) (U : List Bool) : Prop := w.heap[g]? = some (.cells (boolCells U) 4 (0, 0))

theorem BoolsAt.cell {w : World} {g : Nat} {U : List Bool} (h : BoolsAt w g U) (q : Nat) (hq : q < U.length) : w.cell? ⟨g, q, none⟩ = some (.bool (U.getD q false)) :=
  (cell_of_row w g q _ _ (0, 0) h).trans (boolCells_get U q hq)

theorem BoolsAt.frozen {w : World} {g : Nat} {U : List Bool} (h : BoolsAt w g U) (q : Nat) : w.frozen? ⟨g, q, none⟩ = false := frozen_of_row w g q _ _ h

theorem BoolsAt.lt {w : World} {g : Nat} {U : List Bool} (h : BoolsAt w g U) : g < w.heap.size := by
  unfold BoolsAt at h
  exact (Array.getElem?_eq_some_iff.1 h).1

theorem BoolsAt.stored {w : World} {g : Nat} {U : List Bool} (h : BoolsAt w g U) (j : Nat) (x : Bool) : BoolsAt (w.setCell ⟨g, j, none⟩ (.bool x)) g (U.set j x) := by
  unfold BoolsAt
  rw [heap_setCell_same w g j _ _ _ h, boolCells_set]

theorem BoolsAt.keep {w w' : World} {g : Nat} {U : List Bool} (h : BoolsAt w g U) (hb : Below w.heap.size w w') : BoolsAt w' g U := (hb.block g h.lt).trans h

theorem onlySet {B T b : Nat} {w w' : World} (h : Only B T w w') (hb : B ≤ b ∧ b < T) (j : Nat) (u : Value) : Only B T w (w'.setCell ⟨b, j, none⟩ u) :=
  h.trans ⟨rfl, rfl, rfl, (by show w'.heap.size ≤ (w'.heap.modify _ _).size; rw [Array.size_modify]; exact Nat.le_refl _), fun k _ hn => Below.heap_setCell _ _ _ k (fun e => hn (by rw [e]; exact hb))⟩

theorem onlyBelow {g : Nat} {w w1 w2 : World} (h : Only g (g + 1) w w1) (hb : Below w1.heap.size w1 w2) : Only g (g + 1) w w2 :=
  ⟨hb.os.trans h.os, hb.tape.trans h.tape, hb.output.trans h.output, Nat.le_trans h.size hb.size, fun k hk hn => (hb.block k (Nat.lt_of_lt_of_le hk h.size)).trans (h.block k hk hn)⟩

/-- What was written in one block has been taken back. -/
theorem below_back {g : Nat} {w w' : World} {U : List Bool} (h : Only g (g + 1) w w') (h1 : BoolsAt w g U) (h2 : BoolsAt w' g U) : Below w.heap.size w w' :=
  ⟨h.os, h.tape, h.output, h.size, fun k hk => by
    by_cases e : k = g
    · subst e; exact h2.trans h1.symm
    · exact h.block k hk (by omega)⟩

theorem firstF_spec {U : List Bool} {n : Nat} : (∀ j, j < firstF U n → U.getD j false = true) ∧ (firstF U n < n → U.getD (firstF U n) false = false) := by
  unfold firstF
  cases h : (List.range n).find? fun i => !U.getD i false with
  | none =>
    rw [List.find?_range_eq_none] at h
    refine ⟨fun j hj => ?_, fun hn => by simp at hn⟩
    have := h j (by simpa using hj)
    simpa using this
  | some i =>
    rw [List.find?_range_eq_some] at h
    refine ⟨fun j hj => ?_, fun _ => ?_⟩
    · have := h.2.2 j (by simpa using hj)
      simpa using this
    · have := h.1
      simpa using this

/-- What the model's recursion is to tell. -/
def CdSaid (n f : Nat) (c : Int) : Prop := ∀ (gu : Nat) (U : List Bool) (L : List (Int × Int)) (v : Value) (B T : Nat) (w : World), U.length = n → freeF U ≤ f → L.length + f ≤ 12 → (∀ k, k < L.length → (L.getD k (0, 0)).1 < (L.getD k (0, 0)).2) →
  BoolsAt w gu U → PairsIn 64 w B T v L → T ≤ w.heap.size → (gu < B ∨ T ≤ gu) →
  Calls Try.prog 47 #[.int .i64 n, .int .i64 c, .slice (some ⟨gu, 0, none⟩) n n, v] w fun e w' => e = .returned (.int .i64 (cdT n c f U L : Nat)) ∧ Below w.heap.size w w'

set_option maxHeartbeats 1000000 in
theorem cd_leaf (n : Nat) (c : Int) (gu : Nat) (U : List Bool) (L : List (Int × Int)) (v : Value) (B T : Nat) (w : World) (hn : n ≤ 12) (hU : U.length = n) (hf : firstF U n = n) (hL : L.length ≤ 12) (hc : ∀ k, k < L.length → (L.getD k (0, 0)).1 < (L.getD k (0, 0)).2)
    (hb : BoolsAt w gu U) (hP : PairsIn 64 w B T v L) (hT : T ≤ w.heap.size) :
    Calls Try.prog 47 #[.int .i64 n, .int .i64 c, .slice (some ⟨gu, 0, none⟩) n n, v] w fun e w' => e = .returned (.int .i64 (if (pairsC L : Int) = c then 1 else 0 : Nat)) ∧ Below w.heap.size w w' := by
  have hs := (firstF_spec (U := U) (n := n)).1
  rw [hf] at hs
  have HS := Lib.hid (fun j (hj : j < n) => show w.cell? ⟨gu, j, none⟩ = some (.bool true) by rw [hb.cell j (by omega), hs j hj])
  have HO := Lib.hid (fun W (h : PairsIn 64 W B T v L) => srCount_any v L B T W h hc (by omega))
  have HP := Lib.hid hP
  clear hb hP hs hf hU hc
  by_cases he : (pairsC L : Int) = c
  · have e1 : ((pairsC L : Int) == c) = true := by rw [beq_iff_eq]; exact he
    rw [if_pos he]
    clear he
    go_enter Try.func47, Try.ntmps47
    go_wp2
    go_loop [9] (fun u => ∃ k : Nat, k ≤ n ∧ u = .int .i64 k) (fun u => n - (intOf u).toNat)
    case atStart => exact ⟨0, by omega, rfl⟩
    case round =>
      obtain ⟨k, hk, rfl⟩ := hrel
      by_cases hlt : k < n
      · have cc := HS.out k hlt
        go_wp2
        go_round
        case rel => exact ⟨k + 1, by omega, by go_num⟩
        case measure => simp [intOf]; omega
      · obtain rfl : k = n := by omega
        go_wp2_with (first | (go_at_call 65; (refine (HO.out _ HP.out).mono ?_); rintro e w1 ⟨rfl, hb1⟩))
        go_ret
        exact ⟨rfl, hb1⟩
  · have e1 : ((pairsC L : Int) == c) = false := by rw [beq_eq_false_iff_ne]; exact he
    rw [if_neg he]
    clear he
    go_enter Try.func47, Try.ntmps47
    go_wp2
    go_loop [9] (fun u => ∃ k : Nat, k ≤ n ∧ u = .int .i64 k) (fun u => n - (intOf u).toNat)
    case atStart => exact ⟨0, by omega, rfl⟩
    case round =>
      obtain ⟨k, hk, rfl⟩ := hrel
      by_cases hlt : k < n
      · have cc := HS.out k hlt
        go_wp2
        go_round
        case rel => exact ⟨k + 1, by omega, by go_num⟩
        case measure => simp [intOf]; omega
      · obtain rfl : k = n := by omega
        go_wp2_with (first | (go_at_call 65; (refine (HO.out _ HP.out).mono ?_); rintro e w1 ⟨rfl, hb1⟩))
        go_ret
        exact ⟨rfl, hb1⟩

end Go.Proofs.Ytnnhjnogebicbab
