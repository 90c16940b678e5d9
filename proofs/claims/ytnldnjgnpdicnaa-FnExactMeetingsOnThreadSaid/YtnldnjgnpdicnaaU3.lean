/- Meetings of two threads. -/
import Derived.Test.YtnldnjgnpdicnaaU2
import Derived.Test.YtnldnjgnpdicnaaV2
namespace Go.Proofs.Ytnldnjgnpdicnaa
open Go.RowKit
set_option linter.unusedVariables false

/-- Numerators of x and y of the meeting of a b and c d, and the denominator of both, before they are in lowest terms. -/
def mxN (a b c d : Int) : Nat := (if a < c then a * c * (b - d) else a * c * (d - b)).toNat
def myN (a b c d : Int) : Nat := (if a < c then b * d * (c - a) else b * d * (a - c)).toNat
def mdN (a b c d : Int) : Nat := (if a < c then c * b - a * d else a * d - c * b).toNat

theorem mxN_comm (a b c d : Int) (h : meetB a b c d = true) : mxN a b c d = mxN c d a b := by
  unfold meetB at h
  unfold mxN
  rw [decide_eq_true_eq] at h
  rw [Int.mul_comm c a]
  split <;> split <;> first | rfl | omega

theorem myN_comm (a b c d : Int) (h : meetB a b c d = true) : myN a b c d = myN c d a b := by
  unfold meetB at h
  unfold myN
  rw [decide_eq_true_eq] at h
  rw [Int.mul_comm d b]
  split <;> split <;> first | rfl | omega

theorem mdN_comm (a b c d : Int) (h : meetB a b c d = true) : mdN a b c d = mdN c d a b := by
  unfold meetB at h
  unfold mdN
  rw [decide_eq_true_eq] at h
  split <;> split <;> first | rfl | omega

/-- The four numbers of the meeting. -/
def meetL (a b c d : Int) : List Int := [(lowA (mxN a b c d) (mdN a b c d) : Nat), (lowB (mxN a b c d) (mdN a b c d) : Nat), (lowA (myN a b c d) (mdN a b c d) : Nat), (lowB (myN a b c d) (mdN a b c d) : Nat)]

theorem meetL_comm (a b c d : Int) (h : meetB a b c d = true) : meetL a b c d = meetL c d a b := by
  unfold meetL
  rw [mxN_comm a b c d h, myN_comm a b c d h, mdN_comm a b c d h]

theorem meet_letters (a b c d : Int) (h1 : isT a b) (h2 : isT c d) (hm1 : a < c) (hm2 : d < b) : ∃ X Y D : Nat, mxN a b c d = X ∧ myN a b c d = Y ∧ mdN a b c d = D ∧
    a * c * (b - d) = (X : Int) ∧ c * a * (b - d) = (X : Int) ∧ b * d * (c - a) = (Y : Int) ∧ d * b * (c - a) = (Y : Int) ∧ c * b - a * d = (D : Int) ∧ X ≤ 1000000 ∧ Y ≤ 1000000 ∧ 1 ≤ D ∧ D ≤ 10000 ∧
    0 ≤ a * c ∧ a * c ≤ 10000 ∧ 0 ≤ c * a ∧ c * a ≤ 10000 ∧ 0 ≤ b * d ∧ b * d ≤ 10000 ∧ 0 ≤ d * b ∧ d * b ≤ 10000 ∧ 0 ≤ c * b ∧ c * b ≤ 10000 ∧ 0 ≤ a * d ∧ a * d ≤ 10000 := by
  obtain ⟨⟨a1, a2⟩, b1, b2⟩ := h1
  obtain ⟨⟨c1, c2⟩, d1, d2⟩ := h2
  have mm : ∀ x y : Int, 0 ≤ x → x ≤ 100 → 0 ≤ y → y ≤ 100 → 0 ≤ x * y ∧ x * y ≤ 10000 := fun x y h1 h2 h3 h4 => ⟨Int.mul_nonneg h1 h3, by have := Int.mul_le_mul h2 h4 h3 (by omega); omega⟩
  have m3 : ∀ x y : Int, 0 ≤ x → x ≤ 10000 → 0 ≤ y → y ≤ 100 → 0 ≤ x * y ∧ x * y ≤ 1000000 := fun x y h1 h2 h3 h4 => ⟨Int.mul_nonneg h1 h3, by have := Int.mul_le_mul h2 h4 h3 (by omega); omega⟩
  have e1 := mm a c (by omega) (by omega) (by omega) (by omega)
  have e2 := mm b d (by omega) (by omega) (by omega) (by omega)
  have e3 := mm c b (by omega) (by omega) (by omega) (by omega)
  have e4 := mm a d (by omega) (by omega) (by omega) (by omega)
  have e5 := m3 (a * c) (b - d) e1.1 e1.2 (by omega) (by omega)
  have e6 := m3 (b * d) (c - a) e2.1 e2.2 (by omega) (by omega)
  have l1 : a * d < c * b := by
    have x1 : a * d ≤ a * b := Int.mul_le_mul_of_nonneg_left (by omega) (by omega)
    have x2 : a * b < c * b := Int.mul_lt_mul_of_pos_right hm1 (by omega)
    omega
  refine ⟨_, _, _, rfl, rfl, rfl, ?_, ?_, ?_, ?_, ?_, ?_, ?_, ?_, ?_, e1.1, e1.2, by rw [Int.mul_comm]; exact e1.1, by rw [Int.mul_comm]; exact e1.2, e2.1, e2.2, by rw [Int.mul_comm]; exact e2.1, by rw [Int.mul_comm]; exact e2.2, e3.1, e3.2, e4.1, e4.2⟩
  · unfold mxN; rw [if_pos hm1]; omega
  · unfold mxN; rw [if_pos hm1, Int.mul_comm c a]; omega
  · unfold myN; rw [if_pos hm1]; omega
  · unfold myN; rw [if_pos hm1, Int.mul_comm d b]; omega
  · unfold mdN; rw [if_pos hm1]; omega
  · unfold mxN; rw [if_pos hm1]; omega
  · unfold myN; rw [if_pos hm1]; omega
  · unfold mdN; rw [if_pos hm1]; omega
  · unfold mdN; rw [if_pos hm1]; omega

set_option maxHeartbeats 1000000 in
theorem sgMeeting_lt (a b c d : Int) (w : World) (h1 : isT a b) (h2 : isT c d) (hm1 : a < c) (hm2 : d < b) :
    Calls Try.prog 62 #[.agg #[.int .i64 a, .int .i64 b], .agg #[.int .i64 c, .int .i64 d]] w (GivesInts w (meetL a b c d)) := by
  obtain ⟨X, Y, D, hX, hY, hD, q1, q2, q3, q4, q5, x1, y1, d1, d2, r1, r2, r3, r4, r5, r6, r7, r8, r9, r10, r11, r12⟩ := meet_letters a b c d h1 h2 hm1 hm2
  have hL : meetL a b c d = [((lowA X D : Nat) : Int), ((lowB X D : Nat) : Int), ((lowA Y D : Nat) : Int), ((lowB Y D : Nat) : Int)] := by unfold meetL; rw [hX, hY, hD]
  have t1 := h1.1.1
  have t2 := h1.1.2
  have t3 := h1.2.1
  have t4 := h1.2.2
  have t5 := h2.1.1
  have t6 := h2.1.2
  have t7 := h2.2.1
  have t8 := h2.2.2
  have SX := fun W => sgLow_any X D W (by omega) d1 (by omega)
  have SY := fun W => sgLow_any Y D W (by omega) d1 (by omega)
  generalize ((lowA X D : Nat) : Int) = ax at *
  generalize ((lowB X D : Nat) : Int) = bx at *
  generalize ((lowA Y D : Nat) : Int) = ay at *
  generalize ((lowB Y D : Nat) : Int) = cy at *
  have HL := Lib.hid hL
  have HX := Lib.hid SX
  have HY := Lib.hid SY
  clear hX hY hD hL h1 h2 SX SY
  go_enter Try.func62, Try.ntmps62
  go_wp2_with (first | (go_at_call 114; (with_reducible refine (HX.out _).mono ?_); rintro e w1 ⟨rfl, hb⟩; obtain ⟨hc, hf⟩ := bcell hb; (have hz : w.heap.size < w1.heap.size := by (have := hb.size; (try simp at this); omega)); (have hz2 : w.heap.size + 1 < w1.heap.size := by (have := hb.size; (try simp at this); omega)); (have hB : Below w.heap.size w w1 := by (refine Below.trans ?_ (hb.mono (by first | (simp; done) | omega | (simp; omega))); go_grown))) | (go_at_call 114; (with_reducible refine (HY.out _).mono ?_); rintro e w1 ⟨rfl, hb⟩; obtain ⟨hc, hf⟩ := bcell hb; (have hz : w.heap.size < w1.heap.size := by (have := hb.size; (try simp at this); omega)); (have hz2 : w.heap.size + 1 < w1.heap.size := by (have := hb.size; (try simp at this); omega)); (have hB : Below w.heap.size w w1 := by (refine Below.trans ?_ (hb.mono (by first | (simp; done) | omega | (simp; omega))); go_grown))))
  go_ret
  rw [HL.out]
  exact ⟨_, rfl, Ints.boxed w1 w.heap.size 3 [ax, bx, ay, cy] (by omega) (by simp), by go_grown⟩

set_option maxHeartbeats 2000000 in
theorem meetingOf_lt (a b c d : Int) (w : World) (h1 : isT a b) (h2 : isT c d) (hm1 : a < c) (hm2 : d < b) :
    Calls Try.prog 70 #[.agg #[.int .i64 a, .int .i64 b], .agg #[.int .i64 c, .int .i64 d]] w fun e w' => (∃ ax bx ay cy : Int, meetL a b c d = [ax, bx, ay, cy] ∧ e = .returned (.agg #[.int .i64 ax, .int .i64 bx, .int .i64 ay, .int .i64 cy])) ∧ Below w.heap.size w w' := by
  obtain ⟨X, Y, D, hX, hY, hD, q1, q2, q3, q4, q5, x1, y1, d1, d2, r1, r2, r3, r4, r5, r6, r7, r8, r9, r10, r11, r12⟩ := meet_letters a b c d h1 h2 hm1 hm2
  have hL : meetL a b c d = [((lowA X D : Nat) : Int), ((lowB X D : Nat) : Int), ((lowA Y D : Nat) : Int), ((lowB Y D : Nat) : Int)] := by unfold meetL; rw [hX, hY, hD]
  have t1 := h1.1.1
  have t2 := h1.1.2
  have t3 := h1.2.1
  have t4 := h1.2.2
  have t5 := h2.1.1
  have t6 := h2.1.2
  have t7 := h2.2.1
  have t8 := h2.2.2
  have SX := fun W => fractionOf_any X D W (by omega) d1 (by omega)
  have SY := fun W => fractionOf_any Y D W (by omega) d1 (by omega)
  generalize ((lowA X D : Nat) : Int) = ax at *
  generalize ((lowB X D : Nat) : Int) = bx at *
  generalize ((lowA Y D : Nat) : Int) = ay at *
  generalize ((lowB Y D : Nat) : Int) = cy at *
  have HL := Lib.hid hL
  have HX := Lib.hid SX
  have HY := Lib.hid SY
  clear hX hY hD hL h1 h2 SX SY
  have ww0 : IntKind.i64.wrap (c * a) = c * a := by rw [IntKind.wrap_i64]; omega
  have ww1 : IntKind.i64.wrap (d * b) = d * b := by rw [IntKind.wrap_i64]; omega
  have ww2 : IntKind.i64.wrap (b - d) = b - d := by rw [IntKind.wrap_i64]; omega
  have ww3 : IntKind.i64.wrap (c - a) = c - a := by rw [IntKind.wrap_i64]; omega
  have ww4 : IntKind.i64.wrap ((X : Int)) = (X : Int) := by rw [IntKind.wrap_i64]; omega
  have ww5 : IntKind.i64.wrap ((Y : Int)) = (Y : Int) := by rw [IntKind.wrap_i64]; omega
  have ne1 : ¬ w.heap.size = w.heap.size + 1 + 1 := by omega
  have ne2 : ¬ w.heap.size + 1 + 1 = w.heap.size := by omega
  go_enter Try.func70, Try.ntmps70
  go_wp2
  go_region_held3 (fun w' => w'.cell? ⟨w.heap.size, 0, none⟩ = some (.int .i64 c) ∧ w'.cell? ⟨w.heap.size, 1, none⟩ = some (.int .i64 d) ∧ w'.cell? ⟨w.heap.size + 1, 0, none⟩ = some (.int .i64 a) ∧ w'.cell? ⟨w.heap.size + 1, 1, none⟩ = some (.int .i64 b)) (go_keep)
    (first | (go_at_call 122; (first | (with_reducible refine (HX.out _).mono ?_) | (with_reducible refine (HY.out _).mono ?_)); rintro e w1 ⟨rfl, hb⟩; (have c0 : w1.cell? ⟨w.heap.size, 0, none⟩ = some (.int .i64 c) := cellB hb (by first | assumption | go_simp)); (have c1 : w1.cell? ⟨w.heap.size, 1, none⟩ = some (.int .i64 d) := cellB hb (by first | assumption | go_simp)); (have c2 : w1.cell? ⟨w.heap.size + 1, 0, none⟩ = some (.int .i64 a) := cellB hb (by first | assumption | go_simp)); (have c3 : w1.cell? ⟨w.heap.size + 1, 1, none⟩ = some (.int .i64 b) := cellB hb (by first | assumption | go_simp)); (have e0 : w1.cell? ⟨w.heap.size + 1 + 1, 0, none⟩ = some (.int .i64 0) := cellB hb (by first | assumption | go_simp)); (have e1 : w1.cell? ⟨w.heap.size + 1 + 1, 1, none⟩ = some (.int .i64 0) := cellB hb (by first | assumption | go_simp)); (have e2 : w1.cell? ⟨w.heap.size + 1 + 1, 2, none⟩ = some (.int .i64 0) := cellB hb (by first | assumption | go_simp)); (have e3 : w1.cell? ⟨w.heap.size + 1 + 1, 3, none⟩ = some (.int .i64 0) := cellB hb (by first | assumption | go_simp)); (have f0 : w1.frozen? ⟨w.heap.size + 1 + 1, 0, none⟩ = false := (hb.frozen (p := ⟨w.heap.size + 1 + 1, 0, none⟩) (by first | (simp; done) | omega | (simp; omega))).trans (by first | assumption | go_simp)); (have f1 : w1.frozen? ⟨w.heap.size + 1 + 1, 1, none⟩ = false := (hb.frozen (p := ⟨w.heap.size + 1 + 1, 1, none⟩) (by first | (simp; done) | omega | (simp; omega))).trans (by first | assumption | go_simp)); (have f2 : w1.frozen? ⟨w.heap.size + 1 + 1, 2, none⟩ = false := (hb.frozen (p := ⟨w.heap.size + 1 + 1, 2, none⟩) (by first | (simp; done) | omega | (simp; omega))).trans (by first | assumption | go_simp)); (have f3 : w1.frozen? ⟨w.heap.size + 1 + 1, 3, none⟩ = false := (hb.frozen (p := ⟨w.heap.size + 1 + 1, 3, none⟩) (by first | (simp; done) | omega | (simp; omega))).trans (by first | assumption | go_simp)); (have hz : w.heap.size + 1 + 1 < w1.heap.size := by (have := hb.size; (try simp at this); omega)); (have hB : Below w.heap.size w w1 := by (refine Below.trans ?_ (hb.mono (by first | (simp; done) | omega | (simp; omega))); go_grown)); clear hb))
  go_wp2
  exact bodyPost_ret (v := .agg #[.int .i64 ax, .int .i64 bx, .int .i64 ay, .int .i64 cy]) (by simp [results, Try.results70, go_sem, *]) rfl ⟨⟨ax, bx, ay, cy, HL.out, rfl⟩, by go_grown⟩

set_option maxHeartbeats 1000000 in
theorem sgMeeting_gt (a b c d : Int) (w : World) (h1 : isT a b) (h2 : isT c d) (hm1 : c < a) (hm2 : b < d) :
    Calls Try.prog 62 #[.agg #[.int .i64 a, .int .i64 b], .agg #[.int .i64 c, .int .i64 d]] w (GivesInts w (meetL c d a b)) := by
  obtain ⟨X, Y, D, hX, hY, hD, q1, q2, q3, q4, q5, x1, y1, d1, d2, r1, r2, r3, r4, r5, r6, r7, r8, r9, r10, r11, r12⟩ := meet_letters c d a b h2 h1 hm1 hm2
  have hL : meetL c d a b = [((lowA X D : Nat) : Int), ((lowB X D : Nat) : Int), ((lowA Y D : Nat) : Int), ((lowB Y D : Nat) : Int)] := by unfold meetL; rw [hX, hY, hD]
  have t1 := h1.1.1
  have t2 := h1.1.2
  have t3 := h1.2.1
  have t4 := h1.2.2
  have t5 := h2.1.1
  have t6 := h2.1.2
  have t7 := h2.2.1
  have t8 := h2.2.2
  have SX := fun W => sgLow_any X D W (by omega) d1 (by omega)
  have SY := fun W => sgLow_any Y D W (by omega) d1 (by omega)
  generalize ((lowA X D : Nat) : Int) = ax at *
  generalize ((lowB X D : Nat) : Int) = bx at *
  generalize ((lowA Y D : Nat) : Int) = ay at *
  generalize ((lowB Y D : Nat) : Int) = cy at *
  have HL := Lib.hid hL
  have HX := Lib.hid SX
  have HY := Lib.hid SY
  clear hX hY hD hL h1 h2 SX SY
  go_enter Try.func62, Try.ntmps62
  go_wp2_with (first | (go_at_call 114; (with_reducible refine (HX.out _).mono ?_); rintro e w1 ⟨rfl, hb⟩; obtain ⟨hc, hf⟩ := bcell hb; (have hz : w.heap.size < w1.heap.size := by (have := hb.size; (try simp at this); omega)); (have hz2 : w.heap.size + 1 < w1.heap.size := by (have := hb.size; (try simp at this); omega)); (have hB : Below w.heap.size w w1 := by (refine Below.trans ?_ (hb.mono (by first | (simp; done) | omega | (simp; omega))); go_grown))) | (go_at_call 114; (with_reducible refine (HY.out _).mono ?_); rintro e w1 ⟨rfl, hb⟩; obtain ⟨hc, hf⟩ := bcell hb; (have hz : w.heap.size < w1.heap.size := by (have := hb.size; (try simp at this); omega)); (have hz2 : w.heap.size + 1 < w1.heap.size := by (have := hb.size; (try simp at this); omega)); (have hB : Below w.heap.size w w1 := by (refine Below.trans ?_ (hb.mono (by first | (simp; done) | omega | (simp; omega))); go_grown))))
  go_ret
  rw [HL.out]
  exact ⟨_, rfl, Ints.boxed w1 w.heap.size 3 [ax, bx, ay, cy] (by omega) (by simp), by go_grown⟩

set_option maxHeartbeats 2000000 in
theorem meetingOf_gt (a b c d : Int) (w : World) (h1 : isT a b) (h2 : isT c d) (hm1 : c < a) (hm2 : b < d) :
    Calls Try.prog 70 #[.agg #[.int .i64 a, .int .i64 b], .agg #[.int .i64 c, .int .i64 d]] w fun e w' => (∃ ax bx ay cy : Int, meetL c d a b = [ax, bx, ay, cy] ∧ e = .returned (.agg #[.int .i64 ax, .int .i64 bx, .int .i64 ay, .int .i64 cy])) ∧ Below w.heap.size w w' := by
  obtain ⟨X, Y, D, hX, hY, hD, q1, q2, q3, q4, q5, x1, y1, d1, d2, r1, r2, r3, r4, r5, r6, r7, r8, r9, r10, r11, r12⟩ := meet_letters c d a b h2 h1 hm1 hm2
  have hL : meetL c d a b = [((lowA X D : Nat) : Int), ((lowB X D : Nat) : Int), ((lowA Y D : Nat) : Int), ((lowB Y D : Nat) : Int)] := by unfold meetL; rw [hX, hY, hD]
  have t1 := h1.1.1
  have t2 := h1.1.2
  have t3 := h1.2.1
  have t4 := h1.2.2
  have t5 := h2.1.1
  have t6 := h2.1.2
  have t7 := h2.2.1
  have t8 := h2.2.2
  have SX := fun W => fractionOf_any X D W (by omega) d1 (by omega)
  have SY := fun W => fractionOf_any Y D W (by omega) d1 (by omega)
  generalize ((lowA X D : Nat) : Int) = ax at *
  generalize ((lowB X D : Nat) : Int) = bx at *
  generalize ((lowA Y D : Nat) : Int) = ay at *
  generalize ((lowB Y D : Nat) : Int) = cy at *
  have HL := Lib.hid hL
  have HX := Lib.hid SX
  have HY := Lib.hid SY
  clear hX hY hD hL h1 h2 SX SY
  have ww0 : IntKind.i64.wrap (a * c) = a * c := by rw [IntKind.wrap_i64]; omega
  have ww1 : IntKind.i64.wrap (b * d) = b * d := by rw [IntKind.wrap_i64]; omega
  have ww2 : IntKind.i64.wrap (d - b) = d - b := by rw [IntKind.wrap_i64]; omega
  have ww3 : IntKind.i64.wrap (a - c) = a - c := by rw [IntKind.wrap_i64]; omega
  have ww4 : IntKind.i64.wrap ((X : Int)) = (X : Int) := by rw [IntKind.wrap_i64]; omega
  have ww5 : IntKind.i64.wrap ((Y : Int)) = (Y : Int) := by rw [IntKind.wrap_i64]; omega
  have ne1 : ¬ w.heap.size = w.heap.size + 1 + 1 := by omega
  have ne2 : ¬ w.heap.size + 1 + 1 = w.heap.size := by omega
  go_enter Try.func70, Try.ntmps70
  go_wp2
  go_region_held3 (fun w' => w'.cell? ⟨w.heap.size, 0, none⟩ = some (.int .i64 a) ∧ w'.cell? ⟨w.heap.size, 1, none⟩ = some (.int .i64 b) ∧ w'.cell? ⟨w.heap.size + 1, 0, none⟩ = some (.int .i64 c) ∧ w'.cell? ⟨w.heap.size + 1, 1, none⟩ = some (.int .i64 d)) (go_keep)
    (first | (go_at_call 122; (first | (with_reducible refine (HX.out _).mono ?_) | (with_reducible refine (HY.out _).mono ?_)); rintro e w1 ⟨rfl, hb⟩; (have c0 : w1.cell? ⟨w.heap.size, 0, none⟩ = some (.int .i64 a) := cellB hb (by first | assumption | go_simp)); (have c1 : w1.cell? ⟨w.heap.size, 1, none⟩ = some (.int .i64 b) := cellB hb (by first | assumption | go_simp)); (have c2 : w1.cell? ⟨w.heap.size + 1, 0, none⟩ = some (.int .i64 c) := cellB hb (by first | assumption | go_simp)); (have c3 : w1.cell? ⟨w.heap.size + 1, 1, none⟩ = some (.int .i64 d) := cellB hb (by first | assumption | go_simp)); (have e0 : w1.cell? ⟨w.heap.size + 1 + 1, 0, none⟩ = some (.int .i64 0) := cellB hb (by first | assumption | go_simp)); (have e1 : w1.cell? ⟨w.heap.size + 1 + 1, 1, none⟩ = some (.int .i64 0) := cellB hb (by first | assumption | go_simp)); (have e2 : w1.cell? ⟨w.heap.size + 1 + 1, 2, none⟩ = some (.int .i64 0) := cellB hb (by first | assumption | go_simp)); (have e3 : w1.cell? ⟨w.heap.size + 1 + 1, 3, none⟩ = some (.int .i64 0) := cellB hb (by first | assumption | go_simp)); (have f0 : w1.frozen? ⟨w.heap.size + 1 + 1, 0, none⟩ = false := (hb.frozen (p := ⟨w.heap.size + 1 + 1, 0, none⟩) (by first | (simp; done) | omega | (simp; omega))).trans (by first | assumption | go_simp)); (have f1 : w1.frozen? ⟨w.heap.size + 1 + 1, 1, none⟩ = false := (hb.frozen (p := ⟨w.heap.size + 1 + 1, 1, none⟩) (by first | (simp; done) | omega | (simp; omega))).trans (by first | assumption | go_simp)); (have f2 : w1.frozen? ⟨w.heap.size + 1 + 1, 2, none⟩ = false := (hb.frozen (p := ⟨w.heap.size + 1 + 1, 2, none⟩) (by first | (simp; done) | omega | (simp; omega))).trans (by first | assumption | go_simp)); (have f3 : w1.frozen? ⟨w.heap.size + 1 + 1, 3, none⟩ = false := (hb.frozen (p := ⟨w.heap.size + 1 + 1, 3, none⟩) (by first | (simp; done) | omega | (simp; omega))).trans (by first | assumption | go_simp)); (have hz : w.heap.size + 1 + 1 < w1.heap.size := by (have := hb.size; (try simp at this); omega)); (have hB : Below w.heap.size w w1 := by (refine Below.trans ?_ (hb.mono (by first | (simp; done) | omega | (simp; omega))); go_grown)); clear hb))
  go_wp2
  exact bodyPost_ret (v := .agg #[.int .i64 ax, .int .i64 bx, .int .i64 ay, .int .i64 cy]) (by simp [results, Try.results70, go_sem, *]) rfl ⟨⟨ax, bx, ay, cy, HL.out, rfl⟩, by go_grown⟩

end Go.Proofs.Ytnldnjgnpdicnaa
