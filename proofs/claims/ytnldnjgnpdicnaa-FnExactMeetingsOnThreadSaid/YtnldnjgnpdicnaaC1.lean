/- Chords: their order, and whether two of them cross. -/
import Derived.Test.YtnldnjgnpdicnaaW1
import Derived.Deep.RegionHeld3
import Derived.Sort.Grow
namespace Go.Proofs.Ytnldnjgnpdicnaa
open Go.RowKit

/-- Draws and new blocks: no more. -/
def Grows (w w' : World) : Prop := ∃ q os, w' = Sort.grow (w.drewN q) os

theorem grows_below {w w' : World} (h : Grows w w') : Below w.heap.size w w' := by
  obtain ⟨q, os, rfl⟩ := h
  refine ⟨rfl, rfl, rfl, by simp [Sort.grow], fun k hk => ?_⟩
  simp [Sort.grow]
  rw [Array.getElem?_append_left hk]

theorem grows_refl (w : World) : Grows w w := ⟨0, #[], by simp [World.drewN_zero]⟩

theorem grows_alloc {w w1 : World} (h : Grows w w1) (o : Obj) : Grows w (w1.alloc o) := by
  obtain ⟨q, os, rfl⟩ := h
  exact ⟨q, os ++ #[o], by rw [Sort.alloc_eq_grow, Sort.grow_grow]⟩

theorem grows_drewN {w w1 : World} (h : Grows w w1) (n : Nat) : Grows w (w1.drewN n) := by
  obtain ⟨q, os, rfl⟩ := h
  exact ⟨q + n, os, by rw [← World.drewN_drewN]; rfl⟩

theorem grows_drew {w w1 : World} (h : Grows w w1) : Grows w w1.drew := grows_drewN h 1

def cmpI (x y : Int) : Int := if x < y then -1 else if y < x then 1 else 0

/-- The order of two chords. -/
def cmpC (a b c d : Int) : Int := if cmpI a c ≠ 0 then cmpI a c else cmpI b d

set_option maxHeartbeats 400000 in
theorem cmpInt_any (x y : Int) (w : World) :
    Calls Try.prog 121 #[.int .i64 x, .int .i64 y] w fun e w' => e = .returned (.int .i64 (cmpI x y)) ∧ w = w' := by
  by_cases h1 : x < y
  · have e1 := Lib.hid (show cmpI x y = -1 by simp [cmpI, h1])
    go_enter Try.func121, Try.ntmps121
    go_wp2
    go_ret
    exact ⟨by rw [e1.out]; rfl, rfl⟩
  · by_cases h2 : y < x
    · have e1 := Lib.hid (show cmpI x y = 1 by simp [cmpI, h1, h2])
      go_enter Try.func121, Try.ntmps121
      go_wp2
      go_ret
      exact ⟨by rw [e1.out]; rfl, rfl⟩
    · have e1 := Lib.hid (show cmpI x y = 0 by simp [cmpI, h1, h2])
      go_enter Try.func121, Try.ntmps121
      go_wp2
      go_ret
      exact ⟨by rw [e1.out]; rfl, rfl⟩

def orI (u v : Int) : Int := if u ≠ 0 then u else v

set_option maxHeartbeats 400000 in
theorem or_two (u v : Int) (g : Nat) (w : World) (h0 : w.cell? ⟨g, 0, none⟩ = some (.int .i64 u)) (h1 : w.cell? ⟨g, 1, none⟩ = some (.int .i64 v)) :
    Calls Try.prog 143 #[.slice (some ⟨g, 0, none⟩) 2 2] w fun e w' => e = .returned (.int .i64 (orI u v)) ∧ w = w' := by
  by_cases hu : u = 0
  · have e1 := Lib.hid (show orI u v = v by simp [orI, hu])
    have bu : (u != 0) = false := by simp [hu]
    clear hu
    by_cases hv : v = 0
    · have e2 := Lib.hid hv
      have bv : (v != 0) = false := by simp [hv]
      clear hv
      go_enter Try.func143, Try.ntmps143
      go_wp2
      go_rounds 3
      all_goals (go_ret; exact ⟨by rw [e1.out, e2.out]; rfl, rfl⟩)
    · have bv : (v != 0) = true := by simp [hv]
      clear hv
      go_enter Try.func143, Try.ntmps143
      go_wp2
      go_rounds 3
      all_goals (go_ret; exact ⟨by rw [e1.out]; rfl, rfl⟩)
  · have e1 := Lib.hid (show orI u v = u by simp [orI, hu])
    have bu : (u != 0) = true := by simp [hu]
    clear hu
    go_enter Try.func143, Try.ntmps143
    go_wp2
    go_rounds 3
    all_goals (go_ret; exact ⟨by rw [e1.out]; rfl, rfl⟩)

set_option maxHeartbeats 400000 in
theorem compareChords_any (a b c d : Int) (w : World) :
    Calls Try.prog 111 #[.agg #[.int .i64 a, .int .i64 b], .agg #[.int .i64 c, .int .i64 d]] w fun e w' => e = .returned (.int .i64 (cmpC a b c d)) ∧ Grows w w' := by
  go_enter Try.func111, Try.ntmps111
  go_wp2
  go_region_held3 (fun w' => w'.cell? ⟨w.heap.size, 0, none⟩ = some (.int .i64 a) ∧ w'.cell? ⟨w.heap.size, 1, none⟩ = some (.int .i64 b) ∧ w'.cell? ⟨w.heap.size + 1, 0, none⟩ = some (.int .i64 c) ∧ w'.cell? ⟨w.heap.size + 1, 1, none⟩ = some (.int .i64 d)) (go_keep)
    (first | (go_at_call 121; refine (cmpInt_any _ _ _).mono ?_; rintro e w1 ⟨rfl, rfl⟩) | (go_at_call 143; refine (or_two (cmpI a c) (cmpI b d) _ _ ?_ ?_).mono ?_; (go_simp); (go_simp); rintro e w1 ⟨rfl, rfl⟩))
  go_wp2
  go_ret
  exact ⟨rfl, by repeat (first | exact grows_refl _ | refine grows_alloc ?_ _ | refine grows_drewN ?_ _ | refine grows_drew ?_)⟩

theorem compareChords_b (a b c d : Int) (w : World) :
    Calls Try.prog 111 #[.agg #[.int .i64 a, .int .i64 b], .agg #[.int .i64 c, .int .i64 d]] w fun e w' => e = .returned (.int .i64 (cmpC a b c d)) ∧ Below w.heap.size w w' :=
  (compareChords_any a b c d w).mono fun _ _ ⟨he, hg⟩ => ⟨he, grows_below hg⟩

/-- Do two chords a b and c d cross? -/
def crossB (a b c d : Int) : Bool := decide ((a < c ∧ c < b ∧ b < d) ∨ (c < a ∧ a < d ∧ d < b))

theorem cmpC_pos (a b c d : Int) : decide (0 < cmpC a b c d) = decide (c < a ∨ (c = a ∧ d < b)) := by
  unfold cmpC cmpI
  rw [decide_eq_decide]
  split <;> split <;> (try split) <;> (try split) <;> omega

set_option maxHeartbeats 400000 in
theorem areInTurn_lt (a b c d : Int) (w : World) (h1 : a < c) (h2 : c < b) :
    Calls Try.prog 82 #[.agg #[.int .i64 a, .int .i64 b], .agg #[.int .i64 c, .int .i64 d]] w fun e w' => e = .returned (.bool (decide (b < d))) ∧ Below w.heap.size w w' := by
  have hne : (a == c && b == d) = false := by simp; omega
  have hp : decide (0 < cmpC a b c d) = false := by rw [cmpC_pos]; simp; omega
  go_enter Try.func82, Try.ntmps82
  go_wp2_with fail
  refine (compareChords_b _ _ _ _ _).mono ?_
  rintro e w1 ⟨rfl, hb⟩
  have c0 : w1.cell? ⟨w.heap.size, 0, none⟩ = some (.int .i64 a) := (bcell hb).1 _ _ (by simp; omega) |>.trans (by go_simp)
  have c1 : w1.cell? ⟨w.heap.size, 1, none⟩ = some (.int .i64 b) := (bcell hb).1 _ _ (by simp; omega) |>.trans (by go_simp)
  have c2 : w1.cell? ⟨w.heap.size + 1, 0, none⟩ = some (.int .i64 c) := (bcell hb).1 _ _ (by simp) |>.trans (by go_simp)
  have c3 : w1.cell? ⟨w.heap.size + 1, 1, none⟩ = some (.int .i64 d) := (bcell hb).1 _ _ (by simp) |>.trans (by go_simp)
  have f0 : ∀ o, w1.frozen? ⟨w.heap.size, o, none⟩ = false := fun o => (bcell hb).2 _ _ (by simp; omega) |>.trans (by go_simp)
  have f1 : ∀ o, w1.frozen? ⟨w.heap.size + 1, o, none⟩ = false := fun o => (bcell hb).2 _ _ (by simp) |>.trans (by go_simp)
  have hz2 : w.heap.size + 1 < w1.heap.size := by (have := hb.size; (try simp at this); omega)
  have hB : Below w.heap.size w w1 := by (refine Below.trans ?_ (hb.mono (by simp; omega)); go_grown)
  clear hb
  go_wp2
  go_ret
  exact ⟨rfl, by go_grown⟩

set_option maxHeartbeats 400000 in
theorem areInTurn_lt3 (a b c d : Int) (w : World) (h1 : a < c) (h2 : ¬ c < b) :
    Calls Try.prog 82 #[.agg #[.int .i64 a, .int .i64 b], .agg #[.int .i64 c, .int .i64 d]] w fun e w' => e = .returned (.bool false) ∧ Below w.heap.size w w' := by
  have hne : (a == c && b == d) = false := by simp; omega
  have hp : decide (0 < cmpC a b c d) = false := by rw [cmpC_pos]; simp; omega
  go_enter Try.func82, Try.ntmps82
  go_wp2_with fail
  refine (compareChords_b _ _ _ _ _).mono ?_
  rintro e w1 ⟨rfl, hb⟩
  have c0 : w1.cell? ⟨w.heap.size, 0, none⟩ = some (.int .i64 a) := (bcell hb).1 _ _ (by simp; omega) |>.trans (by go_simp)
  have c1 : w1.cell? ⟨w.heap.size, 1, none⟩ = some (.int .i64 b) := (bcell hb).1 _ _ (by simp; omega) |>.trans (by go_simp)
  have c2 : w1.cell? ⟨w.heap.size + 1, 0, none⟩ = some (.int .i64 c) := (bcell hb).1 _ _ (by simp) |>.trans (by go_simp)
  have c3 : w1.cell? ⟨w.heap.size + 1, 1, none⟩ = some (.int .i64 d) := (bcell hb).1 _ _ (by simp) |>.trans (by go_simp)
  have f0 : ∀ o, w1.frozen? ⟨w.heap.size, o, none⟩ = false := fun o => (bcell hb).2 _ _ (by simp; omega) |>.trans (by go_simp)
  have f1 : ∀ o, w1.frozen? ⟨w.heap.size + 1, o, none⟩ = false := fun o => (bcell hb).2 _ _ (by simp) |>.trans (by go_simp)
  have hz2 : w.heap.size + 1 < w1.heap.size := by (have := hb.size; (try simp at this); omega)
  have hB : Below w.heap.size w w1 := by (refine Below.trans ?_ (hb.mono (by simp; omega)); go_grown)
  clear hb
  go_wp2
  go_ret
  exact ⟨rfl, by go_grown⟩

set_option maxHeartbeats 400000 in
theorem areInTurn_gt (a b c d : Int) (w : World) (h1 : c < a) (h2 : a < d) :
    Calls Try.prog 82 #[.agg #[.int .i64 a, .int .i64 b], .agg #[.int .i64 c, .int .i64 d]] w fun e w' => e = .returned (.bool (decide (d < b))) ∧ Below w.heap.size w w' := by
  have hne : (a == c && b == d) = false := by simp; omega
  have hp : decide (0 < cmpC a b c d) = true := by rw [cmpC_pos]; simp; omega
  go_enter Try.func82, Try.ntmps82
  go_wp2_with fail
  refine (compareChords_b _ _ _ _ _).mono ?_
  rintro e w1 ⟨rfl, hb⟩
  have c0 : w1.cell? ⟨w.heap.size, 0, none⟩ = some (.int .i64 a) := (bcell hb).1 _ _ (by simp; omega) |>.trans (by go_simp)
  have c1 : w1.cell? ⟨w.heap.size, 1, none⟩ = some (.int .i64 b) := (bcell hb).1 _ _ (by simp; omega) |>.trans (by go_simp)
  have c2 : w1.cell? ⟨w.heap.size + 1, 0, none⟩ = some (.int .i64 c) := (bcell hb).1 _ _ (by simp) |>.trans (by go_simp)
  have c3 : w1.cell? ⟨w.heap.size + 1, 1, none⟩ = some (.int .i64 d) := (bcell hb).1 _ _ (by simp) |>.trans (by go_simp)
  have f0 : ∀ o, w1.frozen? ⟨w.heap.size, o, none⟩ = false := fun o => (bcell hb).2 _ _ (by simp; omega) |>.trans (by go_simp)
  have f1 : ∀ o, w1.frozen? ⟨w.heap.size + 1, o, none⟩ = false := fun o => (bcell hb).2 _ _ (by simp) |>.trans (by go_simp)
  have hz2 : w.heap.size + 1 < w1.heap.size := by (have := hb.size; (try simp at this); omega)
  have hB : Below w.heap.size w w1 := by (refine Below.trans ?_ (hb.mono (by simp; omega)); go_grown)
  clear hb
  go_wp2
  go_ret
  exact ⟨rfl, by go_grown⟩

set_option maxHeartbeats 400000 in
theorem areInTurn_gt3 (a b c d : Int) (w : World) (h1 : c < a) (h2 : ¬ a < d) :
    Calls Try.prog 82 #[.agg #[.int .i64 a, .int .i64 b], .agg #[.int .i64 c, .int .i64 d]] w fun e w' => e = .returned (.bool false) ∧ Below w.heap.size w w' := by
  have hne : (a == c && b == d) = false := by simp; omega
  have hp : decide (0 < cmpC a b c d) = true := by rw [cmpC_pos]; simp; omega
  go_enter Try.func82, Try.ntmps82
  go_wp2_with fail
  refine (compareChords_b _ _ _ _ _).mono ?_
  rintro e w1 ⟨rfl, hb⟩
  have c0 : w1.cell? ⟨w.heap.size, 0, none⟩ = some (.int .i64 a) := (bcell hb).1 _ _ (by simp; omega) |>.trans (by go_simp)
  have c1 : w1.cell? ⟨w.heap.size, 1, none⟩ = some (.int .i64 b) := (bcell hb).1 _ _ (by simp; omega) |>.trans (by go_simp)
  have c2 : w1.cell? ⟨w.heap.size + 1, 0, none⟩ = some (.int .i64 c) := (bcell hb).1 _ _ (by simp) |>.trans (by go_simp)
  have c3 : w1.cell? ⟨w.heap.size + 1, 1, none⟩ = some (.int .i64 d) := (bcell hb).1 _ _ (by simp) |>.trans (by go_simp)
  have f0 : ∀ o, w1.frozen? ⟨w.heap.size, o, none⟩ = false := fun o => (bcell hb).2 _ _ (by simp; omega) |>.trans (by go_simp)
  have f1 : ∀ o, w1.frozen? ⟨w.heap.size + 1, o, none⟩ = false := fun o => (bcell hb).2 _ _ (by simp) |>.trans (by go_simp)
  have hz2 : w.heap.size + 1 < w1.heap.size := by (have := hb.size; (try simp at this); omega)
  have hB : Below w.heap.size w w1 := by (refine Below.trans ?_ (hb.mono (by simp; omega)); go_grown)
  clear hb
  go_wp2
  go_ret
  exact ⟨rfl, by go_grown⟩

set_option maxHeartbeats 400000 in
theorem areInTurn_eq1 (a b c d : Int) (w : World) (h1 : ¬ a < c) (h1' : ¬ c < a) (h2 : d < b) :
    Calls Try.prog 82 #[.agg #[.int .i64 a, .int .i64 b], .agg #[.int .i64 c, .int .i64 d]] w fun e w' => e = .returned (.bool false) ∧ Below w.heap.size w w' := by
  have hne : (a == c && b == d) = false := by simp; omega
  have hp : decide (0 < cmpC a b c d) = true := by rw [cmpC_pos]; simp; omega
  go_enter Try.func82, Try.ntmps82
  go_wp2_with fail
  refine (compareChords_b _ _ _ _ _).mono ?_
  rintro e w1 ⟨rfl, hb⟩
  have c0 : w1.cell? ⟨w.heap.size, 0, none⟩ = some (.int .i64 a) := (bcell hb).1 _ _ (by simp; omega) |>.trans (by go_simp)
  have c1 : w1.cell? ⟨w.heap.size, 1, none⟩ = some (.int .i64 b) := (bcell hb).1 _ _ (by simp; omega) |>.trans (by go_simp)
  have c2 : w1.cell? ⟨w.heap.size + 1, 0, none⟩ = some (.int .i64 c) := (bcell hb).1 _ _ (by simp) |>.trans (by go_simp)
  have c3 : w1.cell? ⟨w.heap.size + 1, 1, none⟩ = some (.int .i64 d) := (bcell hb).1 _ _ (by simp) |>.trans (by go_simp)
  have f0 : ∀ o, w1.frozen? ⟨w.heap.size, o, none⟩ = false := fun o => (bcell hb).2 _ _ (by simp; omega) |>.trans (by go_simp)
  have f1 : ∀ o, w1.frozen? ⟨w.heap.size + 1, o, none⟩ = false := fun o => (bcell hb).2 _ _ (by simp) |>.trans (by go_simp)
  have hz2 : w.heap.size + 1 < w1.heap.size := by (have := hb.size; (try simp at this); omega)
  have hB : Below w.heap.size w w1 := by (refine Below.trans ?_ (hb.mono (by simp; omega)); go_grown)
  clear hb
  go_wp2
  go_ret
  exact ⟨rfl, by go_grown⟩

set_option maxHeartbeats 400000 in
theorem areInTurn_eq2 (a b c d : Int) (w : World) (h1 : ¬ a < c) (h1' : ¬ c < a) (h2 : b < d) :
    Calls Try.prog 82 #[.agg #[.int .i64 a, .int .i64 b], .agg #[.int .i64 c, .int .i64 d]] w fun e w' => e = .returned (.bool false) ∧ Below w.heap.size w w' := by
  have hne : (a == c && b == d) = false := by simp; omega
  have hp : decide (0 < cmpC a b c d) = false := by rw [cmpC_pos]; simp; omega
  go_enter Try.func82, Try.ntmps82
  go_wp2_with fail
  refine (compareChords_b _ _ _ _ _).mono ?_
  rintro e w1 ⟨rfl, hb⟩
  have c0 : w1.cell? ⟨w.heap.size, 0, none⟩ = some (.int .i64 a) := (bcell hb).1 _ _ (by simp; omega) |>.trans (by go_simp)
  have c1 : w1.cell? ⟨w.heap.size, 1, none⟩ = some (.int .i64 b) := (bcell hb).1 _ _ (by simp; omega) |>.trans (by go_simp)
  have c2 : w1.cell? ⟨w.heap.size + 1, 0, none⟩ = some (.int .i64 c) := (bcell hb).1 _ _ (by simp) |>.trans (by go_simp)
  have c3 : w1.cell? ⟨w.heap.size + 1, 1, none⟩ = some (.int .i64 d) := (bcell hb).1 _ _ (by simp) |>.trans (by go_simp)
  have f0 : ∀ o, w1.frozen? ⟨w.heap.size, o, none⟩ = false := fun o => (bcell hb).2 _ _ (by simp; omega) |>.trans (by go_simp)
  have f1 : ∀ o, w1.frozen? ⟨w.heap.size + 1, o, none⟩ = false := fun o => (bcell hb).2 _ _ (by simp) |>.trans (by go_simp)
  have hz2 : w.heap.size + 1 < w1.heap.size := by (have := hb.size; (try simp at this); omega)
  have hB : Below w.heap.size w w1 := by (refine Below.trans ?_ (hb.mono (by simp; omega)); go_grown)
  clear hb
  go_wp2
  go_ret
  exact ⟨rfl, by go_grown⟩

set_option maxHeartbeats 400000 in
theorem areInTurn_same (a b : Int) (w : World) :
    Calls Try.prog 82 #[.agg #[.int .i64 a, .int .i64 b], .agg #[.int .i64 a, .int .i64 b]] w fun e w' => e = .returned (.bool false) ∧ Below w.heap.size w w' := by
  go_enter Try.func82, Try.ntmps82
  go_wp2
  go_ret
  exact ⟨rfl, by go_grown⟩

theorem areInTurn_any (a b c d : Int) (w : World) :
    Calls Try.prog 82 #[.agg #[.int .i64 a, .int .i64 b], .agg #[.int .i64 c, .int .i64 d]] w fun e w' => e = .returned (.bool (crossB a b c d)) ∧ Below w.heap.size w w' := by
  by_cases h1 : a < c
  · by_cases h2 : c < b
    · have e : crossB a b c d = decide (b < d) := by unfold crossB; rw [decide_eq_decide]; omega
      rw [e]; exact areInTurn_lt a b c d w h1 h2
    · have e : crossB a b c d = false := by unfold crossB; simp; omega
      rw [e]; exact areInTurn_lt3 a b c d w h1 h2
  · by_cases h2 : c < a
    · by_cases h3 : a < d
      · have e : crossB a b c d = decide (d < b) := by unfold crossB; rw [decide_eq_decide]; omega
        rw [e]; exact areInTurn_gt a b c d w h2 h3
      · have e : crossB a b c d = false := by unfold crossB; simp; omega
        rw [e]; exact areInTurn_gt3 a b c d w h2 h3
    · have e : crossB a b c d = false := by unfold crossB; simp; omega
      rw [e]
      by_cases h3 : d < b
      · exact areInTurn_eq1 a b c d w h1 h2 h3
      · by_cases h4 : b < d
        · exact areInTurn_eq2 a b c d w h1 h2 h4
        · obtain rfl : a = c := by omega
          obtain rfl : b = d := by omega
          exact areInTurn_same a b w

theorem ret_bool {a b : Bool} (h : a = b) : Ending.returned (.bool a) = .returned (.bool b) := by rw [h]

/-! chords that there are -/
set_option maxHeartbeats 400000 in
theorem isChord_yes (p a b : Int) (w : World) (h : 0 ≤ a ∧ a < b ∧ b < p) :
    Calls Try.prog 77 #[.int .i64 p, .agg #[.int .i64 a, .int .i64 b]] w fun e w' => e = .returned (.bool true) ∧ Below w.heap.size w w' := by
  obtain ⟨h1, h2, h3⟩ := h
  go_enter Try.func77, Try.ntmps77
  go_wp2
  go_ret
  exact ⟨rfl, by go_grown⟩

set_option maxHeartbeats 400000 in
theorem isChord_no (p a b : Int) (w : World) (h : ¬ (0 ≤ a ∧ a < b ∧ b < p)) :
    Calls Try.prog 77 #[.int .i64 p, .agg #[.int .i64 a, .int .i64 b]] w fun e w' => e = .returned (.bool false) ∧ Below w.heap.size w w' := by
  by_cases h1 : 0 ≤ a
  · by_cases h2 : a < b
    · have h3 : ¬ b < p := by omega
      clear h
      go_enter Try.func77, Try.ntmps77
      go_wp2
      go_ret
      exact ⟨rfl, by go_grown⟩
    · clear h
      go_enter Try.func77, Try.ntmps77
      go_wp2
      go_ret
      exact ⟨rfl, by go_grown⟩
  · clear h
    go_enter Try.func77, Try.ntmps77
    go_wp2
    go_ret
    exact ⟨rfl, by go_grown⟩

set_option maxHeartbeats 400000 in
theorem srIs_yes (p a b : Int) (w : World) (hp : p ≤ 60) (h : 0 ≤ a ∧ a < b ∧ b < p) :
    Calls Try.prog 84 #[.int .i64 p, .agg #[.int .i64 a, .int .i64 b]] w fun e w' => e = .returned (.bool true) ∧ Below w.heap.size w w' := by
  obtain ⟨h1, h2, h3⟩ := h
  go_enter Try.func84, Try.ntmps84
  go_wp2_with (first | (go_at_call 50; (with_reducible refine (l1In_yes _ _ _ _ (by omega)).mono ?_); rintro e w1 ⟨rfl, rfl⟩))
  go_ret
  exact ⟨rfl, by go_grown⟩

set_option maxHeartbeats 400000 in
theorem srIs_no (p a b : Int) (w : World) (hp : 3 ≤ p ∧ p ≤ 60) (h : ¬ (0 ≤ a ∧ a < b ∧ b < p)) :
    Calls Try.prog 84 #[.int .i64 p, .agg #[.int .i64 a, .int .i64 b]] w fun e w' => e = .returned (.bool false) ∧ Below w.heap.size w w' := by
  obtain ⟨hp1, hp2⟩ := hp
  by_cases h1 : 0 ≤ a ∧ a ≤ p - 1
  · have h2 : ¬ (a + 1 ≤ b ∧ b ≤ p - 1) := by omega
    have ha1 := h1.1
    have ha2 := h1.2
    clear h
    go_enter Try.func84, Try.ntmps84
    go_wp2_with (first | (go_at_call 50; (with_reducible refine (l1In_yes a 0 (p - 1) _ h1).mono ?_); rintro e w1 ⟨rfl, rfl⟩) | (go_at_call 50; (with_reducible refine (l1In_no b (a + 1) (p - 1) _ h2).mono ?_); rintro e w1 ⟨rfl, rfl⟩))
    go_ret
    exact ⟨rfl, by go_grown⟩
  · clear h
    go_enter Try.func84, Try.ntmps84
    go_wp2_with (first | (go_at_call 50; (with_reducible refine (l1In_no a 0 (p - 1) _ h1).mono ?_); rintro e w1 ⟨rfl, rfl⟩))
    go_ret
    exact ⟨rfl, by go_grown⟩

set_option maxHeartbeats 400000 in
theorem toChord_any (a b : Int) (w : World) :
    Calls Try.prog 54 #[.agg #[.int .i64 a, .int .i64 b]] w fun e w' => e = .returned (.agg #[.int .i64 a, .int .i64 b]) ∧ Below w.heap.size w w' := by
  go_enter Try.func54, Try.ntmps54
  go_wp2
  exact bodyPost_ret (v := .agg #[.int .i64 a, .int .i64 b]) (by simp [results, Try.results54, go_sem]) rfl ⟨rfl, by go_grown⟩

set_option maxHeartbeats 400000 in
theorem srCross_any (a b c d : Int) (w : World) (h1 : a < b) (h2 : c < d) :
    Calls Try.prog 85 #[.agg #[.int .i64 a, .int .i64 b], .agg #[.int .i64 c, .int .i64 d]] w fun e w' => e = .returned (.bool (crossB a b c d)) ∧ Below w.heap.size w w' := by
  go_enter Try.func85, Try.ntmps85
  go_wp2
  all_goals
    go_ret
    refine ⟨ret_bool ?_, by go_grown⟩
    rw [Bool.eq_iff_iff]
    simp [crossB] <;> omega

end Go.Proofs.Ytnldnjgnpdicnaa
