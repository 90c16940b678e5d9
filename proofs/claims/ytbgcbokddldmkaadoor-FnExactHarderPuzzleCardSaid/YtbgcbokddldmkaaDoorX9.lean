/- The clue that a star itself has, and whether it fits one: the program; hidden stars; DoesFit. -/
import Derived.Test.YtbgcbokddldmkaaDoorX8
namespace Go.Proofs.YtbgcbokddldmkaaDoor
open Go.RowKit
set_option linter.unusedVariables false

set_option maxHeartbeats 1000000 in
theorem clueOf_0 (q : Int) (p s : Nat) (w : World) (h : 3 ≤ p ∧ p ≤ 14 ∧ 1 ≤ s ∧ s < p) :
    Calls Tryd.prog 153 #[.int .i64 0, .agg #[.int .i64 (p : Int), .int .i64 (s : Int)], .int .i64 q] w fun e w' => e = .returned (.tuple #[.agg #[.int .i64 0, .int .i64 ((p : Int)), .int .i64 (0)], .bool true]) ∧ Below w.heap.size w w' := by
  have h60 : 3 ≤ p ∧ p ≤ 60 ∧ 1 ≤ s ∧ s < p := by omega
  have g : 3 ≤ (p : Int) ∧ (p : Int) ≤ 60 ∧ 1 ≤ (s : Int) ∧ (s : Int) < p := by omega
  go_enter Tryd.func153, Tryd.ntmps153
  go_wp2_with (first | fail)
  refine bodyPost_ret (v := .tuple #[.agg #[.int .i64 0, .int .i64 ((p : Int)), .int .i64 (0)], .bool true]) (by simp [results, Tryd.results153, go_sem]) rfl ⟨rfl, ?_⟩
  go_grown

set_option maxHeartbeats 1000000 in
theorem clueOf_1 (q : Int) (p s : Nat) (w : World) (h : 3 ≤ p ∧ p ≤ 14 ∧ 1 ≤ s ∧ s < p) :
    Calls Tryd.prog 153 #[.int .i64 1, .agg #[.int .i64 (p : Int), .int .i64 (s : Int)], .int .i64 q] w fun e w' => e = .returned (.tuple #[.agg #[.int .i64 1, .int .i64 (((Nat.gcd p s : Nat) : Int)), .int .i64 (0)], .bool true]) ∧ Below w.heap.size w w' := by
  have h60 : 3 ≤ p ∧ p ≤ 60 ∧ 1 ≤ s ∧ s < p := by omega
  have g : 3 ≤ (p : Int) ∧ (p : Int) ≤ 60 ∧ 1 ≤ (s : Int) ∧ (s : Int) < p := by omega
  go_enter Tryd.func153, Tryd.ntmps153
  go_wp2_with (first | (go_at_call 167; (with_reducible refine (iCountStrings_yes p s _ h60).mono ?_); rintro e w1 ⟨rfl, hb1⟩; (have e10 : w1.cell? ⟨w.heap.size + 1, 0, none⟩ = some (.int .i64 0) := cellB hb1 (by go_simp)); (have f10 : w1.frozen? ⟨w.heap.size + 1, 0, none⟩ = false := frozenB hb1 (by simp) (by go_simp)); (have e11 : w1.cell? ⟨w.heap.size + 1, 1, none⟩ = some (.int .i64 0) := cellB hb1 (by go_simp)); (have f11 : w1.frozen? ⟨w.heap.size + 1, 1, none⟩ = false := frozenB hb1 (by simp) (by go_simp)); (have e12 : w1.cell? ⟨w.heap.size + 1, 2, none⟩ = some (.int .i64 0) := cellB hb1 (by go_simp)); (have f12 : w1.frozen? ⟨w.heap.size + 1, 2, none⟩ = false := frozenB hb1 (by simp) (by go_simp)); (have e20 : w1.cell? ⟨w.heap.size + 2, 0, none⟩ = some (.int .i64 1) := cellB hb1 (by go_simp)); (have f20 : w1.frozen? ⟨w.heap.size + 2, 0, none⟩ = false := frozenB hb1 (by simp) (by go_simp)); (have e21 : w1.cell? ⟨w.heap.size + 2, 1, none⟩ = some (.int .i64 0) := cellB hb1 (by go_simp)); (have f21 : w1.frozen? ⟨w.heap.size + 2, 1, none⟩ = false := frozenB hb1 (by simp) (by go_simp)); (have e22 : w1.cell? ⟨w.heap.size + 2, 2, none⟩ = some (.int .i64 0) := cellB hb1 (by go_simp)); (have f22 : w1.frozen? ⟨w.heap.size + 2, 2, none⟩ = false := frozenB hb1 (by simp) (by go_simp)); (have hB1 : Below w.heap.size w w1 := Below.trans (by go_grown) (hb1.mono (by first | omega | (simp; done) | (simp; omega))))))
  refine bodyPost_ret (v := .tuple #[.agg #[.int .i64 1, .int .i64 (((Nat.gcd p s : Nat) : Int)), .int .i64 (0)], .bool true]) (by simp [results, Tryd.results153, go_sem, e10, e11, e12]) rfl ⟨rfl, ?_⟩
  exact (((hB1.setC _ _ (by show _ ≤ w.heap.size + 1 + 1; omega)).setC _ _ (by show _ ≤ w.heap.size + 1; omega)).setC _ _ (by show _ ≤ w.heap.size + 1; omega)).setC _ _ (by show _ ≤ w.heap.size + 1; omega)

set_option maxHeartbeats 1000000 in
theorem clueOf_2 (q : Int) (p s : Nat) (w : World) (h : 3 ≤ p ∧ p ≤ 14 ∧ 1 ≤ s ∧ s < p) :
    Calls Tryd.prog 153 #[.int .i64 2, .agg #[.int .i64 (p : Int), .int .i64 (s : Int)], .int .i64 q] w fun e w' => e = .returned (.tuple #[.agg #[.int .i64 2, .int .i64 ((s : Int) / ((Nat.gcd p s : Nat) : Int)), .int .i64 (0)], .bool true]) ∧ Below w.heap.size w w' := by
  have h60 : 3 ≤ p ∧ p ≤ 60 ∧ 1 ≤ s ∧ s < p := by omega
  have g : 3 ≤ (p : Int) ∧ (p : Int) ≤ 60 ∧ 1 ≤ (s : Int) ∧ (s : Int) < p := by omega
  go_enter Tryd.func153, Tryd.ntmps153
  go_wp2_with (first | (go_at_call 168; (with_reducible refine (iTurnsOf_yes p s _ h60).mono ?_); rintro e w1 ⟨rfl, hb1⟩; (have e10 : w1.cell? ⟨w.heap.size + 1, 0, none⟩ = some (.int .i64 0) := cellB hb1 (by go_simp)); (have f10 : w1.frozen? ⟨w.heap.size + 1, 0, none⟩ = false := frozenB hb1 (by simp) (by go_simp)); (have e11 : w1.cell? ⟨w.heap.size + 1, 1, none⟩ = some (.int .i64 0) := cellB hb1 (by go_simp)); (have f11 : w1.frozen? ⟨w.heap.size + 1, 1, none⟩ = false := frozenB hb1 (by simp) (by go_simp)); (have e12 : w1.cell? ⟨w.heap.size + 1, 2, none⟩ = some (.int .i64 0) := cellB hb1 (by go_simp)); (have f12 : w1.frozen? ⟨w.heap.size + 1, 2, none⟩ = false := frozenB hb1 (by simp) (by go_simp)); (have e20 : w1.cell? ⟨w.heap.size + 2, 0, none⟩ = some (.int .i64 2) := cellB hb1 (by go_simp)); (have f20 : w1.frozen? ⟨w.heap.size + 2, 0, none⟩ = false := frozenB hb1 (by simp) (by go_simp)); (have e21 : w1.cell? ⟨w.heap.size + 2, 1, none⟩ = some (.int .i64 0) := cellB hb1 (by go_simp)); (have f21 : w1.frozen? ⟨w.heap.size + 2, 1, none⟩ = false := frozenB hb1 (by simp) (by go_simp)); (have e22 : w1.cell? ⟨w.heap.size + 2, 2, none⟩ = some (.int .i64 0) := cellB hb1 (by go_simp)); (have f22 : w1.frozen? ⟨w.heap.size + 2, 2, none⟩ = false := frozenB hb1 (by simp) (by go_simp)); (have hB1 : Below w.heap.size w w1 := Below.trans (by go_grown) (hb1.mono (by first | omega | (simp; done) | (simp; omega))))))
  refine bodyPost_ret (v := .tuple #[.agg #[.int .i64 2, .int .i64 ((s : Int) / ((Nat.gcd p s : Nat) : Int)), .int .i64 (0)], .bool true]) (by simp [results, Tryd.results153, go_sem, e10, e11, e12]) rfl ⟨rfl, ?_⟩
  exact (((hB1.setC _ _ (by show _ ≤ w.heap.size + 1 + 1; omega)).setC _ _ (by show _ ≤ w.heap.size + 1; omega)).setC _ _ (by show _ ≤ w.heap.size + 1; omega)).setC _ _ (by show _ ≤ w.heap.size + 1; omega)

set_option maxHeartbeats 1000000 in
theorem clueOf_3 (q : Int) (p s : Nat) (w : World) (h : 3 ≤ p ∧ p ≤ 14 ∧ 1 ≤ s ∧ s < p) :
    Calls Tryd.prog 153 #[.int .i64 3, .agg #[.int .i64 (p : Int), .int .i64 (s : Int)], .int .i64 q] w fun e w' => e = .returned (.tuple #[.agg #[.int .i64 3, .int .i64 (((pairsC (starC p s) : Nat) : Int)), .int .i64 (0)], .bool true]) ∧ Below w.heap.size w w' := by
  have h60 : 3 ≤ p ∧ p ≤ 60 ∧ 1 ≤ s ∧ s < p := by omega
  have g : 3 ≤ (p : Int) ∧ (p : Int) ≤ 60 ∧ 1 ≤ (s : Int) ∧ (s : Int) < p := by omega
  go_enter Tryd.func153, Tryd.ntmps153
  go_wp2_with (first | (go_at_call 169; (with_reducible refine (iCountCrossings_yes p s _ h60).mono ?_); rintro e w1 ⟨rfl, hb1⟩; (have e10 : w1.cell? ⟨w.heap.size + 1, 0, none⟩ = some (.int .i64 0) := cellB hb1 (by go_simp)); (have f10 : w1.frozen? ⟨w.heap.size + 1, 0, none⟩ = false := frozenB hb1 (by simp) (by go_simp)); (have e11 : w1.cell? ⟨w.heap.size + 1, 1, none⟩ = some (.int .i64 0) := cellB hb1 (by go_simp)); (have f11 : w1.frozen? ⟨w.heap.size + 1, 1, none⟩ = false := frozenB hb1 (by simp) (by go_simp)); (have e12 : w1.cell? ⟨w.heap.size + 1, 2, none⟩ = some (.int .i64 0) := cellB hb1 (by go_simp)); (have f12 : w1.frozen? ⟨w.heap.size + 1, 2, none⟩ = false := frozenB hb1 (by simp) (by go_simp)); (have e20 : w1.cell? ⟨w.heap.size + 2, 0, none⟩ = some (.int .i64 3) := cellB hb1 (by go_simp)); (have f20 : w1.frozen? ⟨w.heap.size + 2, 0, none⟩ = false := frozenB hb1 (by simp) (by go_simp)); (have e21 : w1.cell? ⟨w.heap.size + 2, 1, none⟩ = some (.int .i64 0) := cellB hb1 (by go_simp)); (have f21 : w1.frozen? ⟨w.heap.size + 2, 1, none⟩ = false := frozenB hb1 (by simp) (by go_simp)); (have e22 : w1.cell? ⟨w.heap.size + 2, 2, none⟩ = some (.int .i64 0) := cellB hb1 (by go_simp)); (have f22 : w1.frozen? ⟨w.heap.size + 2, 2, none⟩ = false := frozenB hb1 (by simp) (by go_simp)); (have hB1 : Below w.heap.size w w1 := Below.trans (by go_grown) (hb1.mono (by first | omega | (simp; done) | (simp; omega))))))
  refine bodyPost_ret (v := .tuple #[.agg #[.int .i64 3, .int .i64 (((pairsC (starC p s) : Nat) : Int)), .int .i64 (0)], .bool true]) (by simp [results, Tryd.results153, go_sem, e10, e11, e12]) rfl ⟨rfl, ?_⟩
  exact (((hB1.setC _ _ (by show _ ≤ w.heap.size + 1 + 1; omega)).setC _ _ (by show _ ≤ w.heap.size + 1; omega)).setC _ _ (by show _ ≤ w.heap.size + 1; omega)).setC _ _ (by show _ ≤ w.heap.size + 1; omega)

set_option maxHeartbeats 1000000 in
theorem clueOf_4 (q : Int) (p s : Nat) (w : World) (h : 3 ≤ p ∧ p ≤ 14 ∧ 1 ≤ s ∧ s < p) (hq : 0 ≤ q ∧ q < p) :
    Calls Tryd.prog 153 #[.int .i64 4, .agg #[.int .i64 (p : Int), .int .i64 (s : Int)], .int .i64 q] w fun e w' => e = .returned (.tuple #[.agg #[.int .i64 4, .int .i64 (q), .int .i64 ((q + s) % p)], .bool true]) ∧ Below w.heap.size w w' := by
  have h60 : 3 ≤ p ∧ p ≤ 60 ∧ 1 ≤ s ∧ s < p := by omega
  have g : 3 ≤ (p : Int) ∧ (p : Int) ≤ 60 ∧ 1 ≤ (s : Int) ∧ (s : Int) < p := by omega
  go_enter Tryd.func153, Tryd.ntmps153
  go_wp2_with (first | (go_at_call 170; (with_reducible refine (nextPoint_yes (p : Int) (s : Int) q _ g hq).mono ?_); rintro e w1 ⟨rfl, hb1⟩; (have e10 : w1.cell? ⟨w.heap.size + 1, 0, none⟩ = some (.int .i64 0) := cellB hb1 (by go_simp)); (have f10 : w1.frozen? ⟨w.heap.size + 1, 0, none⟩ = false := frozenB hb1 (by simp) (by go_simp)); (have e11 : w1.cell? ⟨w.heap.size + 1, 1, none⟩ = some (.int .i64 0) := cellB hb1 (by go_simp)); (have f11 : w1.frozen? ⟨w.heap.size + 1, 1, none⟩ = false := frozenB hb1 (by simp) (by go_simp)); (have e12 : w1.cell? ⟨w.heap.size + 1, 2, none⟩ = some (.int .i64 0) := cellB hb1 (by go_simp)); (have f12 : w1.frozen? ⟨w.heap.size + 1, 2, none⟩ = false := frozenB hb1 (by simp) (by go_simp)); (have e20 : w1.cell? ⟨w.heap.size + 2, 0, none⟩ = some (.int .i64 4) := cellB hb1 (by go_simp)); (have f20 : w1.frozen? ⟨w.heap.size + 2, 0, none⟩ = false := frozenB hb1 (by simp) (by go_simp)); (have e21 : w1.cell? ⟨w.heap.size + 2, 1, none⟩ = some (.int .i64 q) := cellB hb1 (by go_simp)); (have f21 : w1.frozen? ⟨w.heap.size + 2, 1, none⟩ = false := frozenB hb1 (by simp) (by go_simp)); (have e22 : w1.cell? ⟨w.heap.size + 2, 2, none⟩ = some (.int .i64 0) := cellB hb1 (by go_simp)); (have f22 : w1.frozen? ⟨w.heap.size + 2, 2, none⟩ = false := frozenB hb1 (by simp) (by go_simp)); (have hB1 : Below w.heap.size w w1 := Below.trans (by go_grown) (hb1.mono (by first | omega | (simp; done) | (simp; omega))))))
  refine bodyPost_ret (v := .tuple #[.agg #[.int .i64 4, .int .i64 (q), .int .i64 ((q + s) % p)], .bool true]) (by simp [results, Tryd.results153, go_sem, e10, e11, e12]) rfl ⟨rfl, ?_⟩
  exact (((hB1.setC _ _ (by show _ ≤ w.heap.size + 1 + 1; omega)).setC _ _ (by show _ ≤ w.heap.size + 1; omega)).setC _ _ (by show _ ≤ w.heap.size + 1; omega)).setC _ _ (by show _ ≤ w.heap.size + 1; omega)

set_option maxHeartbeats 1000000 in
theorem clueOf_5 (q : Int) (p s : Nat) (w : World) (h : 3 ≤ p ∧ p ≤ 14 ∧ 1 ≤ s ∧ s < p) :
    Calls Tryd.prog 153 #[.int .i64 5, .agg #[.int .i64 (p : Int), .int .i64 (s : Int)], .int .i64 q] w fun e w' => e = .returned (.tuple #[.agg #[.int .i64 5, .int .i64 ((((starC p s).length : Nat) : Int)), .int .i64 (0)], .bool true]) ∧ Below w.heap.size w w' := by
  have h60 : 3 ≤ p ∧ p ≤ 60 ∧ 1 ≤ s ∧ s < p := by omega
  have g : 3 ≤ (p : Int) ∧ (p : Int) ≤ 60 ∧ 1 ≤ (s : Int) ∧ (s : Int) < p := by omega
  go_enter Tryd.func153, Tryd.ntmps153
  go_wp2_with (first | (go_at_call 171; (with_reducible refine (iChordsOf_yes p s _ h60).mono ?_); rintro e w1 ⟨v, rfl, hI, hb1⟩; (obtain ⟨a1, c1, g1, rfl, _⟩ := hI.pairs.view); (have e10 : w1.cell? ⟨w.heap.size + 1, 0, none⟩ = some (.int .i64 0) := cellB hb1 (by go_simp)); (have f10 : w1.frozen? ⟨w.heap.size + 1, 0, none⟩ = false := frozenB hb1 (by simp) (by go_simp)); (have e11 : w1.cell? ⟨w.heap.size + 1, 1, none⟩ = some (.int .i64 0) := cellB hb1 (by go_simp)); (have f11 : w1.frozen? ⟨w.heap.size + 1, 1, none⟩ = false := frozenB hb1 (by simp) (by go_simp)); (have e12 : w1.cell? ⟨w.heap.size + 1, 2, none⟩ = some (.int .i64 0) := cellB hb1 (by go_simp)); (have f12 : w1.frozen? ⟨w.heap.size + 1, 2, none⟩ = false := frozenB hb1 (by simp) (by go_simp)); (have e20 : w1.cell? ⟨w.heap.size + 2, 0, none⟩ = some (.int .i64 5) := cellB hb1 (by go_simp)); (have f20 : w1.frozen? ⟨w.heap.size + 2, 0, none⟩ = false := frozenB hb1 (by simp) (by go_simp)); (have e21 : w1.cell? ⟨w.heap.size + 2, 1, none⟩ = some (.int .i64 0) := cellB hb1 (by go_simp)); (have f21 : w1.frozen? ⟨w.heap.size + 2, 1, none⟩ = false := frozenB hb1 (by simp) (by go_simp)); (have e22 : w1.cell? ⟨w.heap.size + 2, 2, none⟩ = some (.int .i64 0) := cellB hb1 (by go_simp)); (have f22 : w1.frozen? ⟨w.heap.size + 2, 2, none⟩ = false := frozenB hb1 (by simp) (by go_simp)); (have hB1 : Below w.heap.size w w1 := Below.trans (by go_grown) (hb1.mono (by first | omega | (simp; done) | (simp; omega))))))
  refine bodyPost_ret (v := .tuple #[.agg #[.int .i64 5, .int .i64 ((((starC p s).length : Nat) : Int)), .int .i64 (0)], .bool true]) (by simp [results, Tryd.results153, go_sem, e10, e11, e12]) rfl ⟨rfl, ?_⟩
  exact (((hB1.setC _ _ (by show _ ≤ w.heap.size + 1 + 1; omega)).setC _ _ (by show _ ≤ w.heap.size + 1; omega)).setC _ _ (by show _ ≤ w.heap.size + 1; omega)).setC _ _ (by show _ ≤ w.heap.size + 1; omega)

set_option maxHeartbeats 1000000 in
theorem clueOf_no (q : Int) (p s : Nat) (w : World) (h : 3 ≤ p ∧ p ≤ 14 ∧ 1 ≤ s ∧ s < p) (hq : ¬ (0 ≤ q ∧ q < p)) :
    Calls Tryd.prog 153 #[.int .i64 4, .agg #[.int .i64 (p : Int), .int .i64 (s : Int)], .int .i64 q] w fun e w' => e = .returned (.tuple #[.agg #[.int .i64 4, .int .i64 (q), .int .i64 (0)], .bool false]) ∧ Below w.heap.size w w' := by
  have h60 : 3 ≤ p ∧ p ≤ 60 ∧ 1 ≤ s ∧ s < p := by omega
  have g : 3 ≤ (p : Int) ∧ (p : Int) ≤ 60 ∧ 1 ≤ (s : Int) ∧ (s : Int) < p := by omega
  have HNO := Lib.hid (show ¬ ((3 ≤ (p : Int) ∧ (p : Int) ≤ 60 ∧ 1 ≤ (s : Int) ∧ (s : Int) < (p : Int)) ∧ (0 ≤ q ∧ q < (p : Int))) from fun e => hq e.2)
  clear hq
  go_enter Tryd.func153, Tryd.ntmps153
  go_wp2_with (first | (go_at_call 170; (with_reducible refine (nextPoint_no (p : Int) (s : Int) q _ HNO.out).mono ?_); rintro e w1 ⟨rfl, hb1⟩; (have e10 : w1.cell? ⟨w.heap.size + 1, 0, none⟩ = some (.int .i64 0) := cellB hb1 (by go_simp)); (have f10 : w1.frozen? ⟨w.heap.size + 1, 0, none⟩ = false := frozenB hb1 (by simp) (by go_simp)); (have e11 : w1.cell? ⟨w.heap.size + 1, 1, none⟩ = some (.int .i64 0) := cellB hb1 (by go_simp)); (have f11 : w1.frozen? ⟨w.heap.size + 1, 1, none⟩ = false := frozenB hb1 (by simp) (by go_simp)); (have e12 : w1.cell? ⟨w.heap.size + 1, 2, none⟩ = some (.int .i64 0) := cellB hb1 (by go_simp)); (have f12 : w1.frozen? ⟨w.heap.size + 1, 2, none⟩ = false := frozenB hb1 (by simp) (by go_simp)); (have e20 : w1.cell? ⟨w.heap.size + 2, 0, none⟩ = some (.int .i64 4) := cellB hb1 (by go_simp)); (have f20 : w1.frozen? ⟨w.heap.size + 2, 0, none⟩ = false := frozenB hb1 (by simp) (by go_simp)); (have e21 : w1.cell? ⟨w.heap.size + 2, 1, none⟩ = some (.int .i64 q) := cellB hb1 (by go_simp)); (have f21 : w1.frozen? ⟨w.heap.size + 2, 1, none⟩ = false := frozenB hb1 (by simp) (by go_simp)); (have e22 : w1.cell? ⟨w.heap.size + 2, 2, none⟩ = some (.int .i64 0) := cellB hb1 (by go_simp)); (have f22 : w1.frozen? ⟨w.heap.size + 2, 2, none⟩ = false := frozenB hb1 (by simp) (by go_simp)); (have hB1 : Below w.heap.size w w1 := Below.trans (by go_grown) (hb1.mono (by first | omega | (simp; done) | (simp; omega))))))
  refine bodyPost_ret (v := .tuple #[.agg #[.int .i64 4, .int .i64 (q), .int .i64 (0)], .bool false]) (by simp [results, Tryd.results153, go_sem, e10, e11, e12]) rfl ⟨rfl, ?_⟩
  exact (((hB1.setC _ _ (by show _ ≤ w.heap.size + 1 + 1; omega)).setC _ _ (by show _ ≤ w.heap.size + 1; omega)).setC _ _ (by show _ ≤ w.heap.size + 1; omega)).setC _ _ (by show _ ≤ w.heap.size + 1; omega)

theorem valZ_0 (p s : Nat) : valZ 0 p s = (p : Int) := by simp [valZ]
theorem valZ_1 (p s : Nat) : valZ 1 p s = ((Nat.gcd p s : Nat) : Int) := by simp [valZ]
theorem valZ_2 (p s : Nat) : valZ 2 p s = (s : Int) / ((Nat.gcd p s : Nat) : Int) := by simp [valZ]
theorem valZ_3 (p s : Nat) : valZ 3 p s = ((pairsC (starC p s) : Nat) : Int) := by simp [valZ]
theorem valZ_5 (p s : Nat) : valZ 5 p s = (((starC p s).length : Nat) : Int) := by simp [valZ]

/-- What the star's own clue tells, and whether there is one. -/
def ownA (k q : Int) (p s : Nat) : Int := if k = 4 then q else valZ k p s
def ownB (k q : Int) (p s : Nat) : Int := if k = 4 ∧ q < (p : Int) then (q + s) % (p : Int) else 0
def ownO (k q : Int) (p : Nat) : Bool := if k = 4 then decide (q < (p : Int)) else true

theorem clueOf_any (k q : Int) (p s : Nat) (w : World) (h : 3 ≤ p ∧ p ≤ 14 ∧ 1 ≤ s ∧ s < p) (hk : 0 ≤ k ∧ k ≤ 5) (hq : k = 4 → 0 ≤ q) :
    Calls Tryd.prog 153 #[.int .i64 k, .agg #[.int .i64 (p : Int), .int .i64 (s : Int)], .int .i64 q] w fun e w' => e = .returned (.tuple #[.agg #[.int .i64 k, .int .i64 (ownA k q p s), .int .i64 (ownB k q p s)], .bool (ownO k q p)]) ∧ Below w.heap.size w w' := by
  have hk2 : k = 0 ∨ k = 1 ∨ k = 2 ∨ k = 3 ∨ k = 5 ∨ k = 4 := by omega
  rcases hk2 with rfl | rfl | rfl | rfl | rfl | rfl
  · have := clueOf_0 q p s w h
    simpa [ownA, ownB, ownO, valZ_0] using this
  · have := clueOf_1 q p s w h
    simpa [ownA, ownB, ownO, valZ_1] using this
  · have := clueOf_2 q p s w h
    simpa [ownA, ownB, ownO, valZ_2] using this
  · have := clueOf_3 q p s w h
    simpa [ownA, ownB, ownO, valZ_3] using this
  · have := clueOf_5 q p s w h
    simpa [ownA, ownB, ownO, valZ_5] using this
  · have h0 := hq rfl
    by_cases hlt : q < (p : Int)
    · have := clueOf_4 q p s w h ⟨h0, hlt⟩
      simpa [ownA, ownB, ownO, hlt] using this
    · have := clueOf_no q p s w h (fun e => hlt e.2)
      simpa [ownA, ownB, ownO, hlt] using this

theorem own_fit (k a b : Int) (p s : Nat) (hc : clueP (k, a, b)) : fitZ (k, a, b) p s = (ownO k a p && (ownA k a p s == a) && (ownB k a p s == b)) := by
  have hc' := (clueP_iff k a b).1 hc
  by_cases hk : k = 4
  · subst hk
    by_cases hlt : a < (p : Int)
    · by_cases e : (a + (s : Int)) % (p : Int) = b <;> simp [fitZ, ownO, ownA, ownB, hlt, e]
    · simp [fitZ, ownO, hlt]
  · have hb := hc'.2.2 hk
    subst hb
    simp only [fitZ, ownO, ownA, ownB, hk, if_false, false_and, Bool.true_and, beq_self_eq_true, Bool.and_true]
    by_cases e : valZ k p s = a <;> simp [e]

set_option maxHeartbeats 2000000 in
theorem fits_any (k a b : Int) (p s : Nat) (t : Bool) (w : World) (hc : clueP (k, a, b)) (h : 3 ≤ p ∧ p ≤ 14 ∧ 1 ≤ s ∧ s < p) (ht : fitZ (k, a, b) p s = t) :
    Calls Tryd.prog 133 #[.agg #[.int .i64 k, .int .i64 a, .int .i64 b], .agg #[.int .i64 (p : Int), .int .i64 (s : Int)]] w fun e w' => e = .returned (.bool t) ∧ Below w.heap.size w w' := by
  have hc' := (clueP_iff k a b).1 hc
  rw [own_fit k a b p s hc] at ht
  have hv := fun W => clueOf_any k a p s W h hc'.1 (fun e => (hc'.2.1.2.2.2.2.1 e).1.1)
  obtain ⟨V, hV⟩ : ∃ V, ownA k a p s = V := ⟨_, rfl⟩
  obtain ⟨V', hV'⟩ : ∃ V, ownB k a p s = V := ⟨_, rfl⟩
  obtain ⟨o, ho⟩ : ∃ o, ownO k a p = o := ⟨_, rfl⟩
  rw [hV, hV', ho] at hv ht
  have HV := Lib.hid hv
  clear hc hc' hv hV hV' ho
  cases o with
  | false =>
    obtain rfl : t = false := by rw [← ht]; rfl
    clear ht
    go_enter Tryd.func133, Tryd.ntmps133
    go_wp2_with (first | (go_at_call 153; (refine (HV.out _).mono ?_); rintro e w1 ⟨rfl, hb1⟩; (have hB1 : Below w.heap.size w w1 := Below.trans (by go_grown) (hb1.mono (by first | omega | (simp; done) | (simp; omega)))); have hz1 := hB1.size))
    go_ret
    exact ⟨rfl, Below.trans hB1 (by go_grown)⟩
  | true =>
    by_cases e1 : V = a
    · subst e1
      by_cases e2 : V' = b
      · subst e2
        obtain rfl : t = true := by rw [← ht]; simp
        clear ht
        go_enter Tryd.func133, Tryd.ntmps133
        go_wp2_with (first | (go_at_call 153; (refine (HV.out _).mono ?_); rintro e w1 ⟨rfl, hb1⟩; (have hB1 : Below w.heap.size w w1 := Below.trans (by go_grown) (hb1.mono (by first | omega | (simp; done) | (simp; omega)))); have hz1 := hB1.size; (have c0 : (w1.alloc (.cells #[.int .i64 k, .int .i64 V, .int .i64 V'] 44)).cell? ⟨w.heap.size, 0, none⟩ = some (.int .i64 k) := cellB (by go_grown) (cellB hb1 (by go_simp))); (have c1 : (w1.alloc (.cells #[.int .i64 k, .int .i64 V, .int .i64 V'] 44)).cell? ⟨w.heap.size, 1, none⟩ = some (.int .i64 V) := cellB (by go_grown) (cellB hb1 (by go_simp))); (have c2 : (w1.alloc (.cells #[.int .i64 k, .int .i64 V, .int .i64 V'] 44)).cell? ⟨w.heap.size, 2, none⟩ = some (.int .i64 V') := cellB (by go_grown) (cellB hb1 (by go_simp)))))
        go_ret
        exact ⟨by simp, Below.trans hB1 (by go_grown)⟩
      · have n2 : (V' == b) = false := beq_eq_false_iff_ne.2 e2
        obtain rfl : t = false := by rw [← ht, n2]; simp
        clear ht
        go_enter Tryd.func133, Tryd.ntmps133
        go_wp2_with (first | (go_at_call 153; (refine (HV.out _).mono ?_); rintro e w1 ⟨rfl, hb1⟩; (have hB1 : Below w.heap.size w w1 := Below.trans (by go_grown) (hb1.mono (by first | omega | (simp; done) | (simp; omega)))); have hz1 := hB1.size; (have c0 : (w1.alloc (.cells #[.int .i64 k, .int .i64 V, .int .i64 V'] 44)).cell? ⟨w.heap.size, 0, none⟩ = some (.int .i64 k) := cellB (by go_grown) (cellB hb1 (by go_simp))); (have c1 : (w1.alloc (.cells #[.int .i64 k, .int .i64 V, .int .i64 V'] 44)).cell? ⟨w.heap.size, 1, none⟩ = some (.int .i64 V) := cellB (by go_grown) (cellB hb1 (by go_simp))); (have c2 : (w1.alloc (.cells #[.int .i64 k, .int .i64 V, .int .i64 V'] 44)).cell? ⟨w.heap.size, 2, none⟩ = some (.int .i64 b) := cellB (by go_grown) (cellB hb1 (by go_simp)))))
        go_ret
        exact ⟨by simp, Below.trans hB1 (by go_grown)⟩
    · have n1 : (V == a) = false := beq_eq_false_iff_ne.2 e1
      obtain rfl : t = false := by rw [← ht, n1]; simp
      clear ht
      go_enter Tryd.func133, Tryd.ntmps133
      go_wp2_with (first | (go_at_call 153; (refine (HV.out _).mono ?_); rintro e w1 ⟨rfl, hb1⟩; (have hB1 : Below w.heap.size w w1 := Below.trans (by go_grown) (hb1.mono (by first | omega | (simp; done) | (simp; omega)))); have hz1 := hB1.size; (have c0 : (w1.alloc (.cells #[.int .i64 k, .int .i64 V, .int .i64 V'] 44)).cell? ⟨w.heap.size, 0, none⟩ = some (.int .i64 k) := cellB (by go_grown) (cellB hb1 (by go_simp))); (have c1 : (w1.alloc (.cells #[.int .i64 k, .int .i64 V, .int .i64 V'] 44)).cell? ⟨w.heap.size, 1, none⟩ = some (.int .i64 a) := cellB (by go_grown) (cellB hb1 (by go_simp))); (have c2 : (w1.alloc (.cells #[.int .i64 k, .int .i64 V, .int .i64 V'] 44)).cell? ⟨w.heap.size, 2, none⟩ = some (.int .i64 b) := cellB (by go_grown) (cellB hb1 (by go_simp)))))
      go_ret
      exact ⟨by simp, Below.trans hB1 (by go_grown)⟩
end Go.Proofs.YtbgcbokddldmkaaDoor
