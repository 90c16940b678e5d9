/- Regions: discs of so many points with chords; what is told of them. -/
import Derived.Test.YtnldnjgnpdicnaaK7
namespace Go.Proofs.Ytnldnjgnpdicnaa
open Go.RowKit
set_option linter.unusedVariables false

set_option maxHeartbeats 400000 in
theorem isPlaneD_yes (p : Int) (a0 : Option Addr) (cap : Nat) (xs : List (Int × Int)) (B T : Nat) (w : World) (h : PairsIn 52 w B T (.slice a0 xs.length cap) xs) (hT : T ≤ w.heap.size) (hg : goodC p xs) : Calls Try.prog 103 #[.agg #[.int .i64 p, .slice a0 xs.length cap]] w fun e w' => e = .returned (.bool (((allP xs xs.length).length : Int) == 0)) ∧ Below w.heap.size w w' := by
  go_enter Try.func103, Try.ntmps103
  go_wp2_with (first | (go_at_call 130; (with_reducible refine (iIsPlane_yes p _ xs B T _ (h.keep (belowSame (by go_grown) hT)) (Nat.le_trans hT (by first | (simp; done) | (simp; omega))) hg).mono ?_); rintro e w1 ⟨rfl, hb1⟩))
  go_ret
  exact ⟨rfl, Below.trans (by go_grown) (hb1.mono (by first | omega | (simp; done) | (simp; omega)))⟩

set_option maxHeartbeats 400000 in
theorem isPlaneD_no (p : Int) (a0 : Option Addr) (cap : Nat) (xs : List (Int × Int)) (B T : Nat) (w : World) (h : PairsIn 52 w B T (.slice a0 xs.length cap) xs) (hT : T ≤ w.heap.size) (hg : ¬ goodC p xs) : Calls Try.prog 103 #[.agg #[.int .i64 p, .slice a0 xs.length cap]] w fun e w' => e = .returned (.bool false) ∧ Below w.heap.size w w' := by
  go_enter Try.func103, Try.ntmps103
  go_wp2_with (first | (go_at_call 130; (with_reducible refine (iIsPlane_no p _ xs B T _ (h.keep (belowSame (by go_grown) hT)) (Nat.le_trans hT (by first | (simp; done) | (simp; omega))) hg).mono ?_); rintro e w1 ⟨rfl, hb1⟩))
  go_ret
  exact ⟨rfl, Below.trans (by go_grown) (hb1.mono (by first | omega | (simp; done) | (simp; omega)))⟩

set_option maxHeartbeats 400000 in
theorem told_no_CS_plane (p : Int) (a0 : Option Addr) (cap : Nat) (xs : List (Int × Int)) (B T : Nat) (w : World) (h : PairsIn 52 w B T (.slice a0 xs.length cap) xs) (hT : T ≤ w.heap.size) (f : Value) (hg : ¬ goodC p xs) : Calls Try.prog 55 #[.int .i64 p, .slice a0 xs.length cap, .func (.func 103) #[] #[], f] w fun e w' => e = .returned (.tuple #[.slice none 0 0, .bool false]) ∧ Below w.heap.size w w' := by
  go_enter Try.func55, Try.ntmps55
  go_wp2_with (first | (go_at_call 103; (with_reducible refine (isPlaneD_no p _ _ xs B T _ (h.keep (belowSame (by go_grown) hT)) (Nat.le_trans hT (by first | (simp; done) | (simp; omega))) hg).mono ?_); rintro e w1 ⟨rfl, hb1⟩))
  go_ret2
  exact ⟨rfl, Below.trans (by go_grown) (hb1.mono (by first | omega | (simp; done) | (simp; omega)))⟩

end Go.Proofs.Ytnldnjgnpdicnaa
