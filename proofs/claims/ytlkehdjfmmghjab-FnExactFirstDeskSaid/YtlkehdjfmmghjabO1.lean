/- FirstDesk. -/
import Derived.Test.YtlkehdjfmmghjabRows
import Derived.Test.YtlkehdjfmmghjabW1
import Derived.Test.YtlkehdjfmmghjabV0
import Derived.Deep.RegionHeld3
namespace Go.Proofs.Ytlkehdjfmmghjab
open Go.RowKit
set_option linter.unusedVariables false

set_option maxHeartbeats 400000 in
theorem iFirstDesk (w : World) : Calls Try.prog 10 #[] w fun e w' => e = .returned (.agg #[.int .i64 5, .int .i64 2, .int .i64 4, .string { data := #[70, 76] }]) ∧ Below w.heap.size w w' := by
  go_enter Try.func10, Try.ntmps10
  go_wp2
  refine bodyPost_ret (v := .agg #[.int .i64 5, .int .i64 2, .int .i64 4, .string { data := #[70, 76] }]) (by simp [results, Try.results10, go_sem]) rfl ⟨rfl, ?_⟩
  go_grown

set_option maxHeartbeats 400000 in
theorem sFirstDesk (w : World) : Calls Try.prog 9 #[] w fun e w' => e = .returned (.agg #[.int .i64 5, .int .i64 2, .int .i64 4, .string { data := #[70, 76] }]) ∧ Below w.heap.size w w' := by
  go_enter Try.func9, Try.ntmps9
  go_wp2
  refine bodyPost_ret (v := .agg #[.int .i64 5, .int .i64 2, .int .i64 4, .string { data := #[70, 76] }]) (by simp [results, Try.results9, go_sem]) rfl ⟨rfl, ?_⟩
  go_grown

set_option maxHeartbeats 400000 in
theorem eqStar_sameO (p s : Int) (w : World) :
    Calls Try.prog 59 #[.agg #[.int .i64 p, .int .i64 s], .agg #[.int .i64 p, .int .i64 s]] w fun e w' => e = .returned (.bool true) ∧ Below w.heap.size w w' := by
  go_enter Try.func59, Try.ntmps59
  go_wp2
  go_ret
  exact ⟨rfl, by first | exact Below.refl _ _ | go_grown⟩

set_option maxHeartbeats 400000 in
theorem eqDesk_first (w : World) : Calls Try.prog 11 #[.agg #[.int .i64 5, .int .i64 2, .int .i64 4, .string { data := #[70, 76] }], .agg #[.int .i64 5, .int .i64 2, .int .i64 4, .string { data := #[70, 76] }]] w fun e w' => e = .returned (.bool true) ∧ Below w.heap.size w w' := by
  go_enter Try.func11, Try.ntmps11
  go_wp2_with (go_at_call 59; (refine (eqStar_sameO 5 2 _).mono ?_); rintro e w1 ⟨rfl, hb1⟩; (have a2 : w1.cell? ⟨w.heap.size, 2, none⟩ = some (.int .i64 4) := cellB hb1 (by go_simp)); (have a3 : w1.cell? ⟨w.heap.size, 3, none⟩ = some (.string { data := #[70, 76] }) := cellB hb1 (by go_simp)); (have b2 : w1.cell? ⟨w.heap.size + 1, 2, none⟩ = some (.int .i64 4) := cellB hb1 (by go_simp)); (have b3 : w1.cell? ⟨w.heap.size + 1, 3, none⟩ = some (.string { data := #[70, 76] }) := cellB hb1 (by go_simp)); (have hB1 : Below w.heap.size w w1 := Below.trans (by go_grown) (hb1.mono (by first | omega | (simp; done) | (simp; omega)))))
  go_ret
  exact ⟨rfl, hB1⟩

set_option maxHeartbeats 1000000 in
theorem walk_FirstDesk (w : World) : Calls Try.prog 3 #[] w fun e w' => e = .returned (.bool true) ∧ Below w.heap.size w w' := by
  go_enter Try.func3, Try.ntmps3
  go_wp2_with fail
  refine (sFirstDesk _).mono ?_
  rintro e w1 ⟨rfl, hb1⟩
  go_wp2_with fail
  refine (iFirstDesk _).mono ?_
  rintro e w2 ⟨rfl, hb2⟩
  have a0 : w2.cell? ⟨w1.heap.size, 0, none⟩ = some (.int .i64 5) := cellB hb2 (by go_simp)
  have a1 : w2.cell? ⟨w1.heap.size, 1, none⟩ = some (.int .i64 2) := cellB hb2 (by go_simp)
  have a2 : w2.cell? ⟨w1.heap.size, 2, none⟩ = some (.int .i64 4) := cellB hb2 (by go_simp)
  have a3 : w2.cell? ⟨w1.heap.size, 3, none⟩ = some (.string { data := #[70, 76] }) := cellB hb2 (by go_simp)
  have hB2 : Below w1.heap.size w1 w2 := Below.trans (by go_grown) (hb2.mono (by first | omega | (simp; done) | (simp; omega)))
  have n2 := hB2.size
  have n3 : w1.heap.size < w2.heap.size := by have := hb2.size; simp at this; omega
  have c0 := cellB ((Below.refl w2.heap.size w2).alloc (Nat.le_refl _) (.cells #[Value.int .i64 5, Value.int .i64 2, Value.int .i64 4, Value.string { data := #[70, 76] }] 25)) a0
  have c1 := cellB ((Below.refl w2.heap.size w2).alloc (Nat.le_refl _) (.cells #[Value.int .i64 5, Value.int .i64 2, Value.int .i64 4, Value.string { data := #[70, 76] }] 25)) a1
  have c2 := cellB ((Below.refl w2.heap.size w2).alloc (Nat.le_refl _) (.cells #[Value.int .i64 5, Value.int .i64 2, Value.int .i64 4, Value.string { data := #[70, 76] }] 25)) a2
  have c3 := cellB ((Below.refl w2.heap.size w2).alloc (Nat.le_refl _) (.cells #[Value.int .i64 5, Value.int .i64 2, Value.int .i64 4, Value.string { data := #[70, 76] }] 25)) a3
  go_wp2_with fail
  refine (eqDesk_first _).mono ?_
  rintro e w3 ⟨rfl, hb3⟩
  go_wp2_with fail
  go_ret
  refine ⟨rfl, hb1.trans ?_⟩
  exact Below.mono (hB2.trans (Below.trans (by go_grown) (hb3.mono (by first | omega | (simp; done) | (simp; omega))))) hb1.size
end Go.Proofs.Ytlkehdjfmmghjab
