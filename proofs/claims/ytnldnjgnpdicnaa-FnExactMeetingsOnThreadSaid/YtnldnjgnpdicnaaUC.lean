/- Threads: their order, which there are, and whether two of them meet. -/
import Derived.Test.YtnldnjgnpdicnaaC1
import Derived.Test.YtnldnjgnpdicnaaBA
namespace Go.Proofs.Ytnldnjgnpdicnaa
open Go.RowKit

set_option maxHeartbeats 400000 in
theorem compareThreads_any (a b c d : Int) (w : World) :
    Calls Try.prog 116 #[.agg #[.int .i64 a, .int .i64 b], .agg #[.int .i64 c, .int .i64 d]] w fun e w' => e = .returned (.int .i64 (cmpC a b c d)) ∧ Grows w w' := by
  go_enter Try.func116, Try.ntmps116
  go_wp2
  go_region_held3 (fun w' => w'.cell? ⟨w.heap.size, 0, none⟩ = some (.int .i64 a) ∧ w'.cell? ⟨w.heap.size, 1, none⟩ = some (.int .i64 b) ∧ w'.cell? ⟨w.heap.size + 1, 0, none⟩ = some (.int .i64 c) ∧ w'.cell? ⟨w.heap.size + 1, 1, none⟩ = some (.int .i64 d)) (go_keep)
    (first | (go_at_call 121; refine (cmpInt_any _ _ _).mono ?_; rintro e w1 ⟨rfl, rfl⟩) | (go_at_call 143; refine (or_two (cmpI a c) (cmpI b d) _ _ ?_ ?_).mono ?_; (go_simp); (go_simp); rintro e w1 ⟨rfl, rfl⟩))
  go_wp2
  go_ret
  exact ⟨rfl, by repeat (first | exact grows_refl _ | refine grows_alloc ?_ _ | refine grows_drewN ?_ _ | refine grows_drew ?_)⟩

theorem compareThreads_b (a b c d : Int) (w : World) :
    Calls Try.prog 116 #[.agg #[.int .i64 a, .int .i64 b], .agg #[.int .i64 c, .int .i64 d]] w fun e w' => e = .returned (.int .i64 (cmpC a b c d)) ∧ Below w.heap.size w w' :=
  (compareThreads_any a b c d w).mono fun _ _ ⟨he, hg⟩ => ⟨he, grows_below hg⟩

set_option maxHeartbeats 400000 in
theorem isNail_yes (n : Int) (w : World) (h : 1 ≤ n ∧ n ≤ 100) :
    Calls Try.prog 144 #[.int .i64 n] w fun e w' => e = .returned (.bool true) ∧ w = w' := by
  obtain ⟨h1, h2⟩ := h
  go_enter Try.func144, Try.ntmps144
  go_wp2
  go_ret
  exact ⟨rfl, rfl⟩

set_option maxHeartbeats 400000 in
theorem isNail_no (n : Int) (w : World) (h : ¬ (1 ≤ n ∧ n ≤ 100)) :
    Calls Try.prog 144 #[.int .i64 n] w fun e w' => e = .returned (.bool false) ∧ w = w' := by
  by_cases h1 : 1 ≤ n
  · have h2 : ¬ n ≤ 100 := by omega
    clear h
    go_enter Try.func144, Try.ntmps144
    go_wp2
    go_ret
    exact ⟨rfl, rfl⟩
  · clear h
    go_enter Try.func144, Try.ntmps144
    go_wp2
    go_ret
    exact ⟨rfl, rfl⟩

/-- There is a thread between these nails. -/
def isT (a b : Int) : Prop := (1 ≤ a ∧ a ≤ 100) ∧ (1 ≤ b ∧ b ≤ 100)

instance (a b : Int) : Decidable (isT a b) := by unfold isT; infer_instance

set_option maxHeartbeats 400000 in
theorem isThread_yes (a b : Int) (w : World) (h : isT a b) :
    Calls Try.prog 115 #[.agg #[.int .i64 a, .int .i64 b]] w fun e w' => e = .returned (.bool true) ∧ Below w.heap.size w w' := by
  have h1 := h.1
  have h2 := h.2
  clear h
  have H1 := Lib.hid h1
  have H2 := Lib.hid h2
  clear h1 h2
  go_enter Try.func115, Try.ntmps115
  go_wp2_with (first | (go_at_call 144; (with_reducible refine (isNail_yes _ _ H1.out).mono ?_); rintro e w1 ⟨rfl, rfl⟩) | (go_at_call 144; (with_reducible refine (isNail_yes _ _ H2.out).mono ?_); rintro e w1 ⟨rfl, rfl⟩))
  go_ret
  exact ⟨rfl, by go_grown⟩

set_option maxHeartbeats 400000 in
theorem isThread_no (a b : Int) (w : World) (h : ¬ isT a b) :
    Calls Try.prog 115 #[.agg #[.int .i64 a, .int .i64 b]] w fun e w' => e = .returned (.bool false) ∧ Below w.heap.size w w' := by
  by_cases h1 : 1 ≤ a ∧ a ≤ 100
  · have h2 : ¬ (1 ≤ b ∧ b ≤ 100) := fun e => h ⟨h1, e⟩
    have H1 := Lib.hid h1
    have H2 := Lib.hid h2
    clear h h1 h2
    go_enter Try.func115, Try.ntmps115
    go_wp2_with (first | (go_at_call 144; (with_reducible refine (isNail_yes _ _ H1.out).mono ?_); rintro e w1 ⟨rfl, rfl⟩) | (go_at_call 144; (with_reducible refine (isNail_no _ _ H2.out).mono ?_); rintro e w1 ⟨rfl, rfl⟩))
    go_ret
    exact ⟨rfl, by go_grown⟩
  · have H1 := Lib.hid h1
    clear h h1
    go_enter Try.func115, Try.ntmps115
    go_wp2_with (first | (go_at_call 144; (with_reducible refine (isNail_no _ _ H1.out).mono ?_); rintro e w1 ⟨rfl, rfl⟩))
    go_ret
    exact ⟨rfl, by go_grown⟩

set_option maxHeartbeats 400000 in
theorem sgThread_yes (a b : Int) (w : World) (h : isT a b) :
    Calls Try.prog 112 #[.agg #[.int .i64 a, .int .i64 b]] w fun e w' => e = .returned (.bool true) ∧ Below w.heap.size w w' := by
  have h1 := h.1
  have h2 := h.2
  clear h
  have H1 := Lib.hid h1
  have H2 := Lib.hid h2
  clear h1 h2
  go_enter Try.func112, Try.ntmps112
  go_wp2_with (first | (go_at_call 50; (with_reducible refine (l1In_yes _ _ _ _ H1.out).mono ?_); rintro e w1 ⟨rfl, rfl⟩) | (go_at_call 50; (with_reducible refine (l1In_yes _ _ _ _ H2.out).mono ?_); rintro e w1 ⟨rfl, rfl⟩))
  go_ret
  exact ⟨rfl, by go_grown⟩

set_option maxHeartbeats 400000 in
theorem sgThread_no (a b : Int) (w : World) (h : ¬ isT a b) :
    Calls Try.prog 112 #[.agg #[.int .i64 a, .int .i64 b]] w fun e w' => e = .returned (.bool false) ∧ Below w.heap.size w w' := by
  by_cases h1 : 1 ≤ a ∧ a ≤ 100
  · have h2 : ¬ (1 ≤ b ∧ b ≤ 100) := fun e => h ⟨h1, e⟩
    have H1 := Lib.hid h1
    have H2 := Lib.hid h2
    clear h h1 h2
    go_enter Try.func112, Try.ntmps112
    go_wp2_with (first | (go_at_call 50; (with_reducible refine (l1In_yes _ _ _ _ H1.out).mono ?_); rintro e w1 ⟨rfl, rfl⟩) | (go_at_call 50; (with_reducible refine (l1In_no _ _ _ _ H2.out).mono ?_); rintro e w1 ⟨rfl, rfl⟩))
    go_ret
    exact ⟨rfl, by go_grown⟩
  · have H1 := Lib.hid h1
    clear h h1
    go_enter Try.func112, Try.ntmps112
    go_wp2_with (first | (go_at_call 50; (with_reducible refine (l1In_no _ _ _ _ H1.out).mono ?_); rintro e w1 ⟨rfl, rfl⟩))
    go_ret
    exact ⟨rfl, by go_grown⟩

set_option maxHeartbeats 400000 in
theorem sgLess_lt (a b c d : Int) (w : World) (_ : a < c) :
    Calls Try.prog 113 #[.agg #[.int .i64 a, .int .i64 b], .agg #[.int .i64 c, .int .i64 d]] w fun e w' => e = .returned (.bool true) ∧ Below w.heap.size w w' := by
  go_enter Try.func113, Try.ntmps113
  go_wp2
  go_ret
  exact ⟨rfl, by go_grown⟩

set_option maxHeartbeats 400000 in
theorem sgLess_gt (a b c d : Int) (w : World) (_ : c < a) (_ : (a == c) = false) (_ : decide (a < c) = false) :
    Calls Try.prog 113 #[.agg #[.int .i64 a, .int .i64 b], .agg #[.int .i64 c, .int .i64 d]] w fun e w' => e = .returned (.bool false) ∧ Below w.heap.size w w' := by
  go_enter Try.func113, Try.ntmps113
  go_wp2
  go_ret
  exact ⟨rfl, by go_grown⟩

set_option maxHeartbeats 400000 in
theorem sgLess_eq (a b c d : Int) (w : World) (_ : ¬ a < c) (_ : (a == c) = true) :
    Calls Try.prog 113 #[.agg #[.int .i64 a, .int .i64 b], .agg #[.int .i64 c, .int .i64 d]] w fun e w' => e = .returned (.bool (decide (b < d))) ∧ Below w.heap.size w w' := by
  go_enter Try.func113, Try.ntmps113
  go_wp2
  go_ret
  exact ⟨rfl, by go_grown⟩

theorem sgLess_any (a b c d : Int) (w : World) :
    Calls Try.prog 113 #[.agg #[.int .i64 a, .int .i64 b], .agg #[.int .i64 c, .int .i64 d]] w fun e w' => e = .returned (.bool (lessC (a, b) (c, d))) ∧ Below w.heap.size w w' := by
  by_cases h1 : a < c
  · have e : lessC (a, b) (c, d) = true := by simp [lessC]; omega
    rw [e]; exact sgLess_lt a b c d w h1
  · by_cases h2 : c < a
    · have e : lessC (a, b) (c, d) = false := by simp [lessC]; omega
      rw [e]; exact sgLess_gt a b c d w h2 (beq_eq_false_iff_ne.2 (by omega)) (by simp; omega)
    · have e : lessC (a, b) (c, d) = decide (b < d) := by unfold lessC; rw [decide_eq_decide]; simp; omega
      rw [e]; exact sgLess_eq a b c d w h1 (beq_iff_eq.2 (by omega))

set_option maxHeartbeats 400000 in
theorem toThread_any (a b : Int) (w : World) :
    Calls Try.prog 64 #[.agg #[.int .i64 a, .int .i64 b]] w fun e w' => e = .returned (.agg #[.int .i64 a, .int .i64 b]) ∧ Below w.heap.size w w' := by
  go_enter Try.func64, Try.ntmps64
  go_wp2
  exact bodyPost_ret (v := .agg #[.int .i64 a, .int .i64 b]) (by simp [results, Try.results64, go_sem]) rfl ⟨rfl, by go_grown⟩

/-- Two threads meet. -/
def meetB (a b c d : Int) : Bool := decide ((c < a ∧ b < d) ∨ (a < c ∧ d < b))

set_option maxHeartbeats 400000 in
theorem threadsMeet_gt (a b c d : Int) (w : World) (h1 : c < a) (h2 : b < d) :
    Calls Try.prog 119 #[.agg #[.int .i64 a, .int .i64 b], .agg #[.int .i64 c, .int .i64 d]] w fun e w' => e = .returned (.bool true) ∧ Below w.heap.size w w' := by
  go_enter Try.func119, Try.ntmps119
  go_wp2
  go_ret
  exact ⟨rfl, by go_grown⟩

set_option maxHeartbeats 400000 in
theorem threadsMeet_gt2 (a b c d : Int) (w : World) (h1 : c < a) (h2 : ¬ b < d) (h3 : ¬ a < c) :
    Calls Try.prog 119 #[.agg #[.int .i64 a, .int .i64 b], .agg #[.int .i64 c, .int .i64 d]] w fun e w' => e = .returned (.bool false) ∧ Below w.heap.size w w' := by
  go_enter Try.func119, Try.ntmps119
  go_wp2
  go_ret
  exact ⟨rfl, by go_grown⟩

set_option maxHeartbeats 400000 in
theorem threadsMeet_lt (a b c d : Int) (w : World) (h1 : a < c) (h2 : ¬ c < a) :
    Calls Try.prog 119 #[.agg #[.int .i64 a, .int .i64 b], .agg #[.int .i64 c, .int .i64 d]] w fun e w' => e = .returned (.bool (decide (d < b))) ∧ Below w.heap.size w w' := by
  go_enter Try.func119, Try.ntmps119
  go_wp2
  go_ret
  exact ⟨rfl, by go_grown⟩

set_option maxHeartbeats 400000 in
theorem threadsMeet_eq (a b c d : Int) (w : World) (h1 : ¬ a < c) (h2 : ¬ c < a) :
    Calls Try.prog 119 #[.agg #[.int .i64 a, .int .i64 b], .agg #[.int .i64 c, .int .i64 d]] w fun e w' => e = .returned (.bool false) ∧ Below w.heap.size w w' := by
  go_enter Try.func119, Try.ntmps119
  go_wp2
  go_ret
  exact ⟨rfl, by go_grown⟩

theorem threadsMeet_any (a b c d : Int) (w : World) :
    Calls Try.prog 119 #[.agg #[.int .i64 a, .int .i64 b], .agg #[.int .i64 c, .int .i64 d]] w fun e w' => e = .returned (.bool (meetB a b c d)) ∧ Below w.heap.size w w' := by
  by_cases h1 : c < a
  · by_cases h2 : b < d
    · have e : meetB a b c d = true := by unfold meetB; simp; omega
      rw [e]; exact threadsMeet_gt a b c d w h1 h2
    · have e : meetB a b c d = false := by unfold meetB; simp; omega
      rw [e]; exact threadsMeet_gt2 a b c d w h1 h2 (by omega)
  · by_cases h2 : a < c
    · have e : meetB a b c d = decide (d < b) := by unfold meetB; rw [decide_eq_decide]; omega
      rw [e]; exact threadsMeet_lt a b c d w h2 h1
    · have e : meetB a b c d = false := by unfold meetB; simp; omega
      rw [e]; exact threadsMeet_eq a b c d w h2 h1

set_option maxHeartbeats 400000 in
theorem sgMeet_gt (a b c d : Int) (w : World) (h1 : c < a) (h2 : b < d) :
    Calls Try.prog 61 #[.agg #[.int .i64 a, .int .i64 b], .agg #[.int .i64 c, .int .i64 d]] w fun e w' => e = .returned (.bool true) ∧ Below w.heap.size w w' := by
  go_enter Try.func61, Try.ntmps61
  go_wp2
  go_ret
  exact ⟨rfl, by go_grown⟩

set_option maxHeartbeats 400000 in
theorem sgMeet_gt2 (a b c d : Int) (w : World) (h1 : c < a) (h2 : ¬ b < d) (h3 : ¬ a < c) :
    Calls Try.prog 61 #[.agg #[.int .i64 a, .int .i64 b], .agg #[.int .i64 c, .int .i64 d]] w fun e w' => e = .returned (.bool false) ∧ Below w.heap.size w w' := by
  go_enter Try.func61, Try.ntmps61
  go_wp2
  go_ret
  exact ⟨rfl, by go_grown⟩

set_option maxHeartbeats 400000 in
theorem sgMeet_lt (a b c d : Int) (w : World) (h1 : a < c) (h2 : ¬ c < a) :
    Calls Try.prog 61 #[.agg #[.int .i64 a, .int .i64 b], .agg #[.int .i64 c, .int .i64 d]] w fun e w' => e = .returned (.bool (decide (d < b))) ∧ Below w.heap.size w w' := by
  go_enter Try.func61, Try.ntmps61
  go_wp2
  go_ret
  exact ⟨rfl, by go_grown⟩

set_option maxHeartbeats 400000 in
theorem sgMeet_eq (a b c d : Int) (w : World) (h1 : ¬ a < c) (h2 : ¬ c < a) :
    Calls Try.prog 61 #[.agg #[.int .i64 a, .int .i64 b], .agg #[.int .i64 c, .int .i64 d]] w fun e w' => e = .returned (.bool false) ∧ Below w.heap.size w w' := by
  go_enter Try.func61, Try.ntmps61
  go_wp2
  go_ret
  exact ⟨rfl, by go_grown⟩

theorem sgMeet_any (a b c d : Int) (w : World) :
    Calls Try.prog 61 #[.agg #[.int .i64 a, .int .i64 b], .agg #[.int .i64 c, .int .i64 d]] w fun e w' => e = .returned (.bool (meetB a b c d)) ∧ Below w.heap.size w w' := by
  by_cases h1 : c < a
  · by_cases h2 : b < d
    · have e : meetB a b c d = true := by unfold meetB; simp; omega
      rw [e]; exact sgMeet_gt a b c d w h1 h2
    · have e : meetB a b c d = false := by unfold meetB; simp; omega
      rw [e]; exact sgMeet_gt2 a b c d w h1 h2 (by omega)
  · by_cases h2 : a < c
    · have e : meetB a b c d = decide (d < b) := by unfold meetB; rw [decide_eq_decide]; omega
      rw [e]; exact sgMeet_lt a b c d w h2 h1
    · have e : meetB a b c d = false := by unfold meetB; simp; omega
      rw [e]; exact sgMeet_eq a b c d w h2 h1

end Go.Proofs.Ytnldnjgnpdicnaa
