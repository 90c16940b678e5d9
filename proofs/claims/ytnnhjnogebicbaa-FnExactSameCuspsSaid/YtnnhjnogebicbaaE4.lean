/- Gears: teeth that meet: the laws. -/
import Derived.Test.YtnnhjnogebicbaaE3
namespace Go.Proofs.Ytnnhjnogebicbaa
open Go.RowKit
set_option linter.unusedVariables false

set_option maxHeartbeats 400000 in
theorem iFirstMeeting_yes (r k a b : Nat) (w : World) (h : (3 ≤ r ∧ r ≤ 300) ∧ (1 ≤ k ∧ k < r) ∧ a < r ∧ b < k) :
    Calls Try.prog 28 #[.int .i64 r, .int .i64 k, .int .i64 a, .int .i64 b] w fun e w' => e = .returned (.tuple #[.int .i64 (stepV a r (meetT r k a b)), .bool (meetT r k a b).isSome]) ∧ Below w.heap.size w w' := by
  have g : ((3 ≤ (r : Int) ∧ (r : Int) ≤ 300) ∧ (1 ≤ (k : Int) ∧ (k : Int) < r)) ∧ (0 ≤ (a : Int) ∧ (a : Int) < r) ∧ (0 ≤ (b : Int) ∧ (b : Int) < k) := by omega
  go_enter Try.func28, Try.ntmps28
  go_wp2_with (first
    | (go_at_call 50; (with_reducible refine (isMeeting_yes _ _ _ _ _ g).mono ?_); rintro e w1 ⟨rfl, rfl⟩)
    | (go_at_call 51; (refine (stepMeet a r k k b w.heap.size (w.heap.size + 1) (fun i => (a + i * r) % k == b) _ (by omega) (by omega) (by omega) (by omega) (by omega) (by go_simp) (by go_simp) (fun _ _ => rfl)).mono ?_); rintro e w1 ⟨rfl, hb⟩))
  go_ret2
  exact ⟨rfl, Below.trans (by go_grown) (hb.mono (by simp; omega))⟩

set_option maxHeartbeats 400000 in
theorem iFirstMeeting_no (r k a b : Int) (w : World) (h : ¬ (((3 ≤ r ∧ r ≤ 300) ∧ (1 ≤ k ∧ k < r)) ∧ (0 ≤ a ∧ a < r) ∧ (0 ≤ b ∧ b < k))) :
    Calls Try.prog 28 #[.int .i64 r, .int .i64 k, .int .i64 a, .int .i64 b] w fun e w' => e = .returned (.tuple #[.int .i64 0, .bool false]) ∧ Below w.heap.size w w' := by
  go_enter Try.func28, Try.ntmps28
  go_wp2_with (first | (go_at_call 50; (with_reducible refine (isMeeting_no _ _ _ _ _ h).mono ?_); rintro e w1 ⟨rfl, rfl⟩))
  go_ret2
  exact ⟨rfl, by go_grown⟩

set_option maxHeartbeats 400000 in
theorem sFirstMeeting_yes (r k a b : Nat) (w : World) (h : (3 ≤ r ∧ r ≤ 300) ∧ (1 ≤ k ∧ k < r) ∧ a < r ∧ b < k) :
    Calls Try.prog 27 #[.int .i64 r, .int .i64 k, .int .i64 a, .int .i64 b] w fun e w' => e = .returned (.tuple #[.int .i64 (stepV a r (meetT r k a b)), .bool (meetT r k a b).isSome]) ∧ Below w.heap.size w w' := by
  have g : ((3 ≤ (r : Int) ∧ (r : Int) ≤ 300) ∧ (1 ≤ (k : Int) ∧ (k : Int) < r)) ∧ (0 ≤ (a : Int) ∧ (a : Int) < r) ∧ (0 ≤ (b : Int) ∧ (b : Int) < k) := by omega
  obtain ⟨o, ho⟩ : ∃ o, meetT r k a b = o := ⟨_, rfl⟩
  cases o with
  | none =>
    rw [ho]
    have HM := Lib.hid ho
    clear ho
    go_enter Try.func27, Try.ntmps27
    go_wp2_with (first
      | (go_at_call 48; (with_reducible refine (geTeeth_yes _ _ _ _ _ g).mono ?_); rintro e w1 ⟨rfl, rfl⟩)
      | (go_at_call 49; (refine (geMeet_any _ _ _ _ _ h).mono ?_); rintro e w1 ⟨rfl, rfl⟩; rw [HM.out]; dsimp only [stepM]))
    go_ret2
    exact ⟨rfl, Below.refl _ _⟩
  | some i =>
    rw [ho]
    obtain ⟨x, hx⟩ : ∃ x, a + i * r = x := ⟨_, rfl⟩
    have HX := Lib.hid hx
    have HM := Lib.hid ho
    clear ho hx
    have x0 : 0 ≤ (x : Int) := by omega
    have x1 : ¬ (x : Int) < 0 := by omega
    go_enter Try.func27, Try.ntmps27
    go_wp2_with (first
      | (go_at_call 48; (with_reducible refine (geTeeth_yes _ _ _ _ _ g).mono ?_); rintro e w1 ⟨rfl, rfl⟩)
      | (go_at_call 49; (refine (geMeet_any _ _ _ _ _ h).mono ?_); rintro e w1 ⟨rfl, rfl⟩; rw [HM.out]; dsimp only [stepM]; rw [HX.out]))
    go_ret2
    exact ⟨by simp [stepV, ← HX.out], Below.refl _ _⟩

set_option maxHeartbeats 400000 in
theorem sFirstMeeting_no (r k a b : Int) (w : World) (h : ¬ (((3 ≤ r ∧ r ≤ 300) ∧ (1 ≤ k ∧ k < r)) ∧ (0 ≤ a ∧ a < r) ∧ (0 ≤ b ∧ b < k))) :
    Calls Try.prog 27 #[.int .i64 r, .int .i64 k, .int .i64 a, .int .i64 b] w fun e w' => e = .returned (.tuple #[.int .i64 0, .bool false]) ∧ Below w.heap.size w w' := by
  go_enter Try.func27, Try.ntmps27
  go_wp2_with (first | (go_at_call 48; (with_reducible refine (geTeeth_no _ _ _ _ _ h).mono ?_); rintro e w1 ⟨rfl, rfl⟩))
  go_ret2
  exact ⟨rfl, Below.refl _ _⟩

set_option maxHeartbeats 400000 in
theorem iDoMeet_yes (r k a b : Nat) (w : World) (h : (3 ≤ r ∧ r ≤ 300) ∧ (1 ≤ k ∧ k < r) ∧ a < r ∧ b < k) :
    Calls Try.prog 26 #[.int .i64 r, .int .i64 k, .int .i64 a, .int .i64 b] w fun e w' => e = .returned (.tuple #[.bool (meetT r k a b).isSome, .bool true]) ∧ Below w.heap.size w w' := by
  have g : ((3 ≤ (r : Int) ∧ (r : Int) ≤ 300) ∧ (1 ≤ (k : Int) ∧ (k : Int) < r)) ∧ (0 ≤ (a : Int) ∧ (a : Int) < r) ∧ (0 ≤ (b : Int) ∧ (b : Int) < k) := by omega
  go_enter Try.func26, Try.ntmps26
  go_wp2_with (first
    | (go_at_call 50; (with_reducible refine (isMeeting_yes _ _ _ _ _ g).mono ?_); rintro e w1 ⟨rfl, rfl⟩)
    | (go_at_call 28; (refine (iFirstMeeting_yes _ _ _ _ _ h).mono ?_); rintro e w1 ⟨rfl, hb⟩))
  go_ret2
  exact ⟨rfl, hb⟩

set_option maxHeartbeats 400000 in
theorem iDoMeet_no (r k a b : Int) (w : World) (h : ¬ (((3 ≤ r ∧ r ≤ 300) ∧ (1 ≤ k ∧ k < r)) ∧ (0 ≤ a ∧ a < r) ∧ (0 ≤ b ∧ b < k))) :
    Calls Try.prog 26 #[.int .i64 r, .int .i64 k, .int .i64 a, .int .i64 b] w fun e w' => e = .returned (.tuple #[.bool false, .bool false]) ∧ Below w.heap.size w w' := by
  go_enter Try.func26, Try.ntmps26
  go_wp2_with (first | (go_at_call 50; (with_reducible refine (isMeeting_no _ _ _ _ _ h).mono ?_); rintro e w1 ⟨rfl, rfl⟩))
  go_ret2
  exact ⟨rfl, Below.refl _ _⟩

set_option maxHeartbeats 400000 in
theorem sDoMeet_yes (r k a b : Nat) (w : World) (h : (3 ≤ r ∧ r ≤ 300) ∧ (1 ≤ k ∧ k < r) ∧ a < r ∧ b < k) :
    Calls Try.prog 25 #[.int .i64 r, .int .i64 k, .int .i64 a, .int .i64 b] w fun e w' => e = .returned (.tuple #[.bool (meetT r k a b).isSome, .bool true]) ∧ Below w.heap.size w w' := by
  have g : ((3 ≤ (r : Int) ∧ (r : Int) ≤ 300) ∧ (1 ≤ (k : Int) ∧ (k : Int) < r)) ∧ (0 ≤ (a : Int) ∧ (a : Int) < r) ∧ (0 ≤ (b : Int) ∧ (b : Int) < k) := by omega
  obtain ⟨o, ho⟩ : ∃ o, meetT r k a b = o := ⟨_, rfl⟩
  cases o with
  | none =>
    rw [ho]
    have HM := Lib.hid ho
    clear ho
    go_enter Try.func25, Try.ntmps25
    go_wp2_with (first
      | (go_at_call 48; (with_reducible refine (geTeeth_yes _ _ _ _ _ g).mono ?_); rintro e w1 ⟨rfl, rfl⟩)
      | (go_at_call 49; (refine (geMeet_any _ _ _ _ _ h).mono ?_); rintro e w1 ⟨rfl, rfl⟩; rw [HM.out]; dsimp only [stepM]))
    go_ret2
    exact ⟨rfl, Below.refl _ _⟩
  | some i =>
    rw [ho]
    obtain ⟨x, hx⟩ : ∃ x, a + i * r = x := ⟨_, rfl⟩
    have HX := Lib.hid hx
    have HM := Lib.hid ho
    clear ho hx
    have x0 : 0 ≤ (x : Int) := by omega
    go_enter Try.func25, Try.ntmps25
    go_wp2_with (first
      | (go_at_call 48; (with_reducible refine (geTeeth_yes _ _ _ _ _ g).mono ?_); rintro e w1 ⟨rfl, rfl⟩)
      | (go_at_call 49; (refine (geMeet_any _ _ _ _ _ h).mono ?_); rintro e w1 ⟨rfl, rfl⟩; rw [HM.out]; dsimp only [stepM]; rw [HX.out]))
    go_ret2
    exact ⟨by simp, Below.refl _ _⟩

set_option maxHeartbeats 400000 in
theorem sDoMeet_no (r k a b : Int) (w : World) (h : ¬ (((3 ≤ r ∧ r ≤ 300) ∧ (1 ≤ k ∧ k < r)) ∧ (0 ≤ a ∧ a < r) ∧ (0 ≤ b ∧ b < k))) :
    Calls Try.prog 25 #[.int .i64 r, .int .i64 k, .int .i64 a, .int .i64 b] w fun e w' => e = .returned (.tuple #[.bool false, .bool false]) ∧ Below w.heap.size w w' := by
  go_enter Try.func25, Try.ntmps25
  go_wp2_with (first | (go_at_call 48; (with_reducible refine (geTeeth_no _ _ _ _ _ h).mono ?_); rintro e w1 ⟨rfl, rfl⟩))
  go_ret2
  exact ⟨rfl, Below.refl _ _⟩

set_option maxHeartbeats 400000 in
theorem walk_FirstMeeting (r k a b : Int) (w : World) (_ : (Lit.int .i64 r).wf = true) (_ : (Lit.int .i64 k).wf = true) (_ : (Lit.int .i64 a).wf = true) (_ : (Lit.int .i64 b).wf = true) :
    Calls Try.prog 9 #[.int .i64 r, .int .i64 k, .int .i64 a, .int .i64 b] w fun e w' => e = .returned (.bool true) ∧ Below w.heap.size w w' := by
  by_cases h : ((3 ≤ r ∧ r ≤ 300) ∧ (1 ≤ k ∧ k < r)) ∧ (0 ≤ a ∧ a < r) ∧ (0 ≤ b ∧ b < k)
  · obtain ⟨r, rfl⟩ := Int.eq_ofNat_of_zero_le (show 0 ≤ r by omega)
    obtain ⟨k, rfl⟩ := Int.eq_ofNat_of_zero_le (show 0 ≤ k by omega)
    obtain ⟨a, rfl⟩ := Int.eq_ofNat_of_zero_le (show 0 ≤ a by omega)
    obtain ⟨b, rfl⟩ := Int.eq_ofNat_of_zero_le (show 0 ≤ b by omega)
    have g : (3 ≤ r ∧ r ≤ 300) ∧ (1 ≤ k ∧ k < r) ∧ a < r ∧ b < k := by omega
    clear h
    have HS := fun W => sFirstMeeting_yes r k a b W g
    have HI := fun W => iFirstMeeting_yes r k a b W g
    generalize stepV a r (meetT r k a b) = x at HS HI
    generalize (meetT r k a b).isSome = t at HS HI
    go_enter Try.func9, Try.ntmps9
    go_wp2_with (first | (go_at_call 27; (with_reducible refine (HS _).mono ?_); rintro e w1 ⟨rfl, hb1⟩) | (go_at_call 28; (with_reducible refine (HI _).mono ?_); rintro e w2 ⟨rfl, hb2⟩))
    go_ret
    exact ⟨by simp, hb1.trans (hb2.mono hb1.size)⟩
  · go_enter Try.func9, Try.ntmps9
    go_wp2_with (first | (go_at_call 27; (with_reducible refine (sFirstMeeting_no _ _ _ _ _ h).mono ?_); rintro e w1 ⟨rfl, hb1⟩) | (go_at_call 28; (with_reducible refine (iFirstMeeting_no _ _ _ _ _ h).mono ?_); rintro e w2 ⟨rfl, hb2⟩))
    go_ret
    exact ⟨rfl, hb1.trans (hb2.mono hb1.size)⟩

set_option maxHeartbeats 400000 in
theorem walk_DoMeet (r k a b : Int) (w : World) (_ : (Lit.int .i64 r).wf = true) (_ : (Lit.int .i64 k).wf = true) (_ : (Lit.int .i64 a).wf = true) (_ : (Lit.int .i64 b).wf = true) :
    Calls Try.prog 8 #[.int .i64 r, .int .i64 k, .int .i64 a, .int .i64 b] w fun e w' => e = .returned (.bool true) ∧ Below w.heap.size w w' := by
  by_cases h : ((3 ≤ r ∧ r ≤ 300) ∧ (1 ≤ k ∧ k < r)) ∧ (0 ≤ a ∧ a < r) ∧ (0 ≤ b ∧ b < k)
  · obtain ⟨r, rfl⟩ := Int.eq_ofNat_of_zero_le (show 0 ≤ r by omega)
    obtain ⟨k, rfl⟩ := Int.eq_ofNat_of_zero_le (show 0 ≤ k by omega)
    obtain ⟨a, rfl⟩ := Int.eq_ofNat_of_zero_le (show 0 ≤ a by omega)
    obtain ⟨b, rfl⟩ := Int.eq_ofNat_of_zero_le (show 0 ≤ b by omega)
    have g : (3 ≤ r ∧ r ≤ 300) ∧ (1 ≤ k ∧ k < r) ∧ a < r ∧ b < k := by omega
    clear h
    have HS := fun W => sDoMeet_yes r k a b W g
    have HI := fun W => iDoMeet_yes r k a b W g
    generalize (meetT r k a b).isSome = t at HS HI
    go_enter Try.func8, Try.ntmps8
    go_wp2_with (first | (go_at_call 25; (with_reducible refine (HS _).mono ?_); rintro e w1 ⟨rfl, hb1⟩) | (go_at_call 26; (with_reducible refine (HI _).mono ?_); rintro e w2 ⟨rfl, hb2⟩))
    go_ret
    exact ⟨by simp, hb1.trans (hb2.mono hb1.size)⟩
  · go_enter Try.func8, Try.ntmps8
    go_wp2_with (first | (go_at_call 25; (with_reducible refine (sDoMeet_no _ _ _ _ _ h).mono ?_); rintro e w1 ⟨rfl, hb1⟩) | (go_at_call 26; (with_reducible refine (iDoMeet_no _ _ _ _ _ h).mono ?_); rintro e w2 ⟨rfl, hb2⟩))
    go_ret
    exact ⟨rfl, hb1.trans (hb2.mono hb1.size)⟩

end Go.Proofs.Ytnnhjnogebicbaa
