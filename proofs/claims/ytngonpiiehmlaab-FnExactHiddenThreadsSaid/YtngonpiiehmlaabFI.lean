/- Heights of threads: guesses, and the closures that tell of them. -/
import Derived.Test.YtngonpiiehmlaabFH
import Derived.Test.YtngonpiiehmlaabFQ
import Derived.Test.YtngonpiiehmlaabUGi
import Derived.WalkLawsBesides
namespace Go.Proofs.Ytngonpiiehmlaab
open Go.RowKit
set_option linter.unusedVariables false

theorem fl_run {P : Program} (t : TypeId) (b j : Nat) (hb : b ≤ 100) (hj : j ≤ 100) (W : World) :
    (binOp .mul t (.float .f64 (floatOfInt .f64 (b : Int))) (.float .f64 (floatOfInt .f64 (j : Int)))).run P W = .ok (.float .f64 (floatOfInt .f64 ((b * j : Nat) : Int))) W :=
  run_float_arith W .mul t .f64 _ _ _ (mul_fl b j hb hj)

theorem gu_run {P : Program} (t : TypeId) (n a : Nat) (hn : n ≤ 10000) (a1 : 1 ≤ a) (a2 : a ≤ 100) (W : World) :
    (binOp .quo t (.float .f64 (floatOfInt .f64 (n : Int))) (.float .f64 (floatOfInt .f64 (a : Int)))).run P W = .ok (.float .f64 (gu n a)) W := by
  obtain ⟨_, _, _, h, _⟩ := gu_is n a hn a1 a2
  exact run_float_arith W .quo t .f64 _ _ _ h

set_option maxHeartbeats 1000000 in
theorem guessHeight_any (a b x : Int) (w : World) (h : isT a b) (hx : 0 ≤ x ∧ x ≤ a) :
    Calls Try.prog 73 #[.agg #[.int .i64 a, .int .i64 b], .int .i64 x] w fun e w' => e = .returned (.float .f64 (gu (hgt a b x) a.toNat)) ∧ Below w.heap.size w w' := by
  obtain ⟨m, k, hm, em, hm1, rfl, hk1, hk2, hd1, hd2⟩ := hgt_letters a b x h hx
  rw [hm, Int.toNat_natCast]
  obtain ⟨bn, rfl⟩ := Int.eq_ofNat_of_zero_le (show 0 ≤ b by have := h.2.1; omega)
  obtain ⟨j, hj⟩ := Int.eq_ofNat_of_zero_le hd1
  have hb2 : (bn : Int) ≤ 100 := h.2.2
  have hmul := fl_run (P := Try.prog) 98 bn j (by omega) (by omega)
  have hbj : bn * j = m := by
    have : ((bn * j : Nat) : Int) = (m : Int) := by rw [← em, hj]; simp
    omega
  rw [hbj] at hmul
  have hquo := gu_run (P := Try.prog) 98 m k hm1 hk1 hk2
  have hw1 : IntKind.i64.wrap ((k : Int) - x) = (j : Int) := by rw [IntKind.wrap_i64]; omega
  generalize gu m k = G at *
  clear hm h hx em hbj
  go_enter Try.func73, Try.ntmps73
  go_wp2
  go_ret
  exact ⟨rfl, by go_grown⟩

def ordI (o : Ordering) : Int := match o with | .lt => -1 | .eq => 0 | .gt => 1

set_option maxHeartbeats 400000 in
theorem isNaN_no (g : Nat) (w : World) (h : Ieee.double.order g g = some .eq) :
    Calls Try.prog 97 #[.float .f64 g] w fun e w' => e = .returned (.bool false) ∧ w = w' := by
  have h1 : (FloatKind.f64.format.order g g != some Ordering.eq) = false := by show (Ieee.double.order g g != some .eq) = false; rw [h]; rfl
  go_enter Try.func97, Try.ntmps97
  go_wp2
  go_ret
  exact ⟨rfl, rfl⟩

set_option maxHeartbeats 400000 in
theorem cmpFloat_lt (g h : Nat) (w : World) (hg : Ieee.double.order g g = some .eq) (hh : Ieee.double.order h h = some .eq) (ho : Ieee.double.order g h = some .lt) :
    Calls Try.prog 72 #[.float .f64 g, .float .f64 h] w fun e w' => e = .returned (.int .i64 (-1)) ∧ w = w' := by
  have h1 : (FloatKind.f64.format.order g h == some Ordering.lt) = true := by show (Ieee.double.order g h == some .lt) = true; rw [ho]; rfl
  have h2 : (FloatKind.f64.format.order g h == some Ordering.gt) = false := by show (Ieee.double.order g h == some .gt) = false; rw [ho]; rfl
  have HG := Lib.hid hg
  have HH := Lib.hid hh
  clear hg hh ho
  go_enter Try.func72, Try.ntmps72
  go_wp2_with (first
    | (go_at_call 97; (with_reducible refine (isNaN_no g _ HG.out).mono ?_); rintro e w1 ⟨rfl, rfl⟩)
    | (go_at_call 97; (with_reducible refine (isNaN_no h _ HH.out).mono ?_); rintro e w1 ⟨rfl, rfl⟩))
  go_ret
  exact ⟨rfl, rfl⟩

set_option maxHeartbeats 400000 in
theorem cmpFloat_eq (g h : Nat) (w : World) (hg : Ieee.double.order g g = some .eq) (hh : Ieee.double.order h h = some .eq) (ho : Ieee.double.order g h = some .eq) :
    Calls Try.prog 72 #[.float .f64 g, .float .f64 h] w fun e w' => e = .returned (.int .i64 (0)) ∧ w = w' := by
  have h1 : (FloatKind.f64.format.order g h == some Ordering.lt) = false := by show (Ieee.double.order g h == some .lt) = false; rw [ho]; rfl
  have h2 : (FloatKind.f64.format.order g h == some Ordering.gt) = false := by show (Ieee.double.order g h == some .gt) = false; rw [ho]; rfl
  have HG := Lib.hid hg
  have HH := Lib.hid hh
  clear hg hh ho
  go_enter Try.func72, Try.ntmps72
  go_wp2_with (first
    | (go_at_call 97; (with_reducible refine (isNaN_no g _ HG.out).mono ?_); rintro e w1 ⟨rfl, rfl⟩)
    | (go_at_call 97; (with_reducible refine (isNaN_no h _ HH.out).mono ?_); rintro e w1 ⟨rfl, rfl⟩))
  go_ret
  exact ⟨rfl, rfl⟩

set_option maxHeartbeats 400000 in
theorem cmpFloat_gt (g h : Nat) (w : World) (hg : Ieee.double.order g g = some .eq) (hh : Ieee.double.order h h = some .eq) (ho : Ieee.double.order g h = some .gt) :
    Calls Try.prog 72 #[.float .f64 g, .float .f64 h] w fun e w' => e = .returned (.int .i64 (1)) ∧ w = w' := by
  have h1 : (FloatKind.f64.format.order g h == some Ordering.lt) = false := by show (Ieee.double.order g h == some .lt) = false; rw [ho]; rfl
  have h2 : (FloatKind.f64.format.order g h == some Ordering.gt) = true := by show (Ieee.double.order g h == some .gt) = true; rw [ho]; rfl
  have HG := Lib.hid hg
  have HH := Lib.hid hh
  clear hg hh ho
  go_enter Try.func72, Try.ntmps72
  go_wp2_with (first
    | (go_at_call 97; (with_reducible refine (isNaN_no g _ HG.out).mono ?_); rintro e w1 ⟨rfl, rfl⟩)
    | (go_at_call 97; (with_reducible refine (isNaN_no h _ HH.out).mono ?_); rintro e w1 ⟨rfl, rfl⟩))
  go_ret
  exact ⟨rfl, rfl⟩

theorem cmpFloat_any (g h : Nat) (o : Ordering) (w : World) (hg : Ieee.double.order g g = some .eq) (hh : Ieee.double.order h h = some .eq) (ho : Ieee.double.order g h = some o) :
    Calls Try.prog 72 #[.float .f64 g, .float .f64 h] w fun e w' => e = .returned (.int .i64 (ordI o)) ∧ w = w' := by
  cases o
  · exact cmpFloat_lt g h w hg hh ho
  · exact cmpFloat_eq g h w hg hh ho
  · exact cmpFloat_gt g h w hg hh ho

end Go.Proofs.Ytngonpiiehmlaab
