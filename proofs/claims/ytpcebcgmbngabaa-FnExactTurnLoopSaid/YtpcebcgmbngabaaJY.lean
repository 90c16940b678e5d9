/- Loops told from a sign on: the law of TurnLoop. -/
import Derived.Test.YtpcebcgmbngabaaJX
namespace Go.Proofs.Ytpcebcgmbngabaa
open Go.RowKit
set_option linter.unusedVariables false

set_option maxHeartbeats 1000000 in
theorem core_TurnLoop (t : ByteArray) (k : Int) (x : ByteArray) (b : Bool) (w : World) (ht0 : t.size ≤ 1048576)
    (hs : ∀ W : World, Calls Try.prog 27 #[.string t, .int .i64 k] W fun e w' => e = .returned (.tuple #[.string x, .bool b]) ∧ Below W.heap.size W w')
    (hi : ∀ W : World, Calls Try.prog 28 #[.string t, .int .i64 k] W fun e w' => e = .returned (.tuple #[.string x, .bool b]) ∧ Below W.heap.size W w') :
    Calls Try.prog 9 #[.string t, .int .i64 k] w fun e w' => e = .returned (.bool true) ∧ Below w.heap.size w w' := by
  have HS := Lib.hid hs
  have HI := Lib.hid hi
  have h0 : ¬ 1048576 < (t.size : Int) := by omega
  clear hs hi ht0
  go_enter Try.func9, Try.ntmps9
  go_wp2_with (first | (go_at_call 27; (with_reducible refine (HS.out _).mono ?_); rintro e w1 ⟨rfl, hb1⟩) | (go_at_call 28; (with_reducible refine (HI.out _).mono ?_); rintro e w2 ⟨rfl, hb2⟩))
  go_ret
  exact ⟨rfl, hb1.trans (hb2.mono hb1.size)⟩

set_option maxHeartbeats 400000 in
theorem long0_TurnLoop (t : ByteArray) (k : Int) (w : World)  (ht : 1048576 < (t.size : Int)) :
    Calls Try.prog 9 #[.string t, .int .i64 k] w fun e w' => e = .returned (.bool true) ∧ Below w.heap.size w w' := by
  go_enter Try.func9, Try.ntmps9
  go_wp2
  go_ret
  exact ⟨rfl, Below.refl _ _⟩

set_option maxHeartbeats 400000 in
theorem iTurnLoop_no1 (t : ByteArray) (k : Int) (w : World) (ht : t.size ≤ 1048576) (hg : goodL t.data.toList = false) : Calls Try.prog 28 #[.string t, .int .i64 k] w fun e w' => e = .returned (.tuple #[.string ⟨#[]⟩, .bool false]) ∧ Below w.heap.size w w' := by
  have HG := Lib.hid hg
  clear hg
  go_enter Try.func28, Try.ntmps28
  go_wp2_with (first | (go_at_call 16; (with_reducible refine (iIsLoop_any t _ ht).mono ?_); rintro e w1 ⟨rfl, hb1⟩; rw [HG.out]))
  go_ret2
  exact ⟨rfl, hb1⟩

set_option maxHeartbeats 400000 in
theorem iTurnLoop_no2 (t : ByteArray) (k : Int) (w : World) (ht : t.size ≤ 1048576) (hg : goodL t.data.toList = true) (h : k < 0) : Calls Try.prog 28 #[.string t, .int .i64 k] w fun e w' => e = .returned (.tuple #[.string ⟨#[]⟩, .bool false]) ∧ Below w.heap.size w w' := by
  have HG := Lib.hid hg
  clear hg
  go_enter Try.func28, Try.ntmps28
  go_wp2_with (first | (go_at_call 16; (with_reducible refine (iIsLoop_any t _ ht).mono ?_); rintro e w1 ⟨rfl, hb1⟩; rw [HG.out]))
  go_ret2
  exact ⟨rfl, hb1⟩

set_option maxHeartbeats 400000 in
theorem iTurnLoop_no3 (t : ByteArray) (k : Int) (w : World) (ht : t.size ≤ 1048576) (hg : goodL t.data.toList = true) (h0 : ¬ k < 0) (h : max (t.size : Int) 1 ≤ k) : Calls Try.prog 28 #[.string t, .int .i64 k] w fun e w' => e = .returned (.tuple #[.string ⟨#[]⟩, .bool false]) ∧ Below w.heap.size w w' := by
  have HG := Lib.hid hg
  clear hg
  go_enter Try.func28, Try.ntmps28
  go_wp2_with (first | (go_at_call 16; (with_reducible refine (iIsLoop_any t _ ht).mono ?_); rintro e w1 ⟨rfl, hb1⟩; rw [HG.out]))
  go_ret2
  exact ⟨rfl, hb1⟩

set_option maxHeartbeats 400000 in
theorem iTurnLoop_yes (t : ByteArray) (k : Nat) (w : World) (ht : t.size ≤ 1048576) (hg : goodL t.data.toList = true) (h : ¬ max (t.size : Int) 1 ≤ (k : Int)) : Calls Try.prog 28 #[.string t, .int .i64 k] w fun e w' => e = .returned (.tuple #[.string (txL (anewL (rotL t.data.toList k))), .bool true]) ∧ Below w.heap.size w w' := by
  have HG := Lib.hid hg
  have h16 : t.size ≤ 16 := by rw [← tx_len]; exact ((goodL_iff _).1 hg).1
  have hk : k ≤ t.size := by omega
  have h0 : ¬ (k : Int) < 0 := by omega
  have HX := Lib.hid (show (txL (rotL t.data.toList k)).size ≤ 16 by rw [txL_size, rotL_length, tx_len]; exact h16)
  clear hg
  go_enter Try.func28, Try.ntmps28
  go_wp2_with (first | (go_at_call 16; (with_reducible refine (iIsLoop_any t _ ht).mono ?_); rintro e w1 ⟨rfl, hb1⟩; rw [HG.out]) | (go_at_call 59; (with_reducible refine (shifted_any t k _ hk (by omega)).mono ?_); rintro e w2 ⟨rfl, hb2⟩) | (go_at_call 58; (with_reducible refine (namedAnew_any (txL (rotL t.data.toList k)) _ HX.out).mono ?_); rintro e w3 ⟨rfl, hb3⟩))
  go_ret2
  exact ⟨rfl, (hb1.trans (hb2.mono hb1.size)).trans (hb3.mono (Nat.le_trans hb1.size hb2.size))⟩

set_option maxHeartbeats 400000 in
theorem sTurnLoop_no1 (t : ByteArray) (k : Int) (w : World) (ht : t.size ≤ 1048576) (hg : goodL t.data.toList = false) : Calls Try.prog 27 #[.string t, .int .i64 k] w fun e w' => e = .returned (.tuple #[.string ⟨#[]⟩, .bool false]) ∧ Below w.heap.size w w' := by
  have HG := Lib.hid hg
  clear hg
  go_enter Try.func27, Try.ntmps27
  go_wp2_with (first | (go_at_call 39; (with_reducible refine (loGood_any t _ ht).mono ?_); rintro e w1 ⟨rfl, hb1⟩; rw [HG.out]))
  go_ret2
  exact ⟨rfl, hb1⟩

set_option maxHeartbeats 400000 in
theorem sTurnLoop_no2 (t : ByteArray) (k : Int) (w : World) (ht : t.size ≤ 1048576) (hg : goodL t.data.toList = true) (h : ¬ (0 ≤ k ∧ k ≤ max 0 ((t.size : Int) - 1))) : Calls Try.prog 27 #[.string t, .int .i64 k] w fun e w' => e = .returned (.tuple #[.string ⟨#[]⟩, .bool false]) ∧ Below w.heap.size w w' := by
  have HG := Lib.hid hg
  have e1 : IntKind.i64.wrap ((t.size : Int) - 1) = (t.size : Int) - 1 := by rw [IntKind.wrap_i64]; omega
  obtain ⟨m, hm⟩ : ∃ m, max 0 ((t.size : Int) - 1) = m := ⟨_, rfl⟩
  rw [hm] at h
  have HM := Lib.hid hm
  clear hg hm
  go_enter Try.func27, Try.ntmps27
  go_wp2_with (first | (go_at_call 39; (with_reducible refine (loGood_any t _ ht).mono ?_); rintro e w1 ⟨rfl, hb1⟩; rw [HG.out]) | (go_at_call 56; (with_reducible refine (loMost_i _ _ _).mono ?_); rintro e w2 ⟨rfl, rfl⟩; rw [HM.out]) | (go_at_call 55; (with_reducible refine (l1In_no _ _ _ _ h).mono ?_); rintro e w3 ⟨rfl, rfl⟩))
  go_ret2
  exact ⟨rfl, hb1⟩

set_option maxHeartbeats 1000000 in
theorem sTurnLoop_yes (t : ByteArray) (k : Nat) (w : World) (ht : t.size ≤ 1048576) (hg : goodL t.data.toList = true) (h : 0 ≤ (k : Int) ∧ (k : Int) ≤ max 0 ((t.size : Int) - 1)) : Calls Try.prog 27 #[.string t, .int .i64 k] w fun e w' => e = .returned (.tuple #[.string (txL (anewL (rotL t.data.toList k))), .bool true]) ∧ Below w.heap.size w w' := by
  have HG := Lib.hid hg
  have h16 : t.size ≤ 16 := by rw [← tx_len]; exact ((goodL_iff _).1 hg).1
  have hk : k ≤ t.size := by omega
  have e1 : IntKind.i64.wrap ((t.size : Int) - 1) = (t.size : Int) - 1 := by rw [IntKind.wrap_i64]; omega
  have HX := Lib.hid (show (txL (rotL t.data.toList k)).size ≤ 16 by rw [txL_size, rotL_length, tx_len]; exact h16)
  have hrot : t.extract k t.size ++ t.extract 0 k = txL (rotL t.data.toList k) := by
    apply ByteArray.ext
    apply Array.toList_inj.1
    rw [ByteArray.data_append, Array.toList_append]
    exact rot_ext t k hk
  have hadd := txAdd (t.extract k t.size) (t.extract 0 k) (by rw [ByteArray.size_extract, ByteArray.size_extract]; omega)
  rw [hrot] at hadd
  obtain ⟨m, hm⟩ : ∃ m, max 0 ((t.size : Int) - 1) = m := ⟨_, rfl⟩
  rw [hm] at h
  have HM := Lib.hid hm
  have HH := Lib.hid h
  obtain ⟨X, hX⟩ : ∃ X, txL (rotL t.data.toList k) = X := ⟨_, rfl⟩
  rw [hX] at HX hadd
  have HAN := Lib.hid (fun W => show Calls Try.prog 57 #[.string X] W fun e w' => e = .returned (.string (txL (anewL (rotL t.data.toList k)))) ∧ Below W.heap.size W w' by
    have := loAnew_any X W HX.out
    rw [show X.data.toList = rotL t.data.toList k by rw [← hX]; rfl] at this
    exact this)
  have k0 : 0 ≤ (k : Int) := by omega
  have k1 : (k : Int) ≤ (t.size : Int) := by omega
  clear hg hm h hrot hX
  go_enter Try.func27, Try.ntmps27
  go_wp2_with (first | (go_at_call 39; (with_reducible refine (loGood_any t _ ht).mono ?_); rintro e w1 ⟨rfl, hb1⟩; rw [HG.out]) | (go_at_call 56; (with_reducible refine (loMost_i _ _ _).mono ?_); rintro e w2 ⟨rfl, rfl⟩; rw [HM.out]) | (go_at_call 55; (with_reducible refine (l1In_yes _ _ _ _ HH.out).mono ?_); rintro e w3 ⟨rfl, rfl⟩))
  have hz1 := hb1.size
  go_region_held3 (fun w' => Below w.heap.size w w') (first | exact bdn hb1 _ | assumption)
    (first | (go_at_call 57; (refine (HAN.out _).mono ?_); rintro e w4 ⟨rfl, hb4⟩; (have hb5 : Below w.heap.size w w4 := Below.trans hb1 (Below.mono (by first | exact hb4 | exact Below.trans (by go_grown) hb4) hz1))))
  all_goals
    go_wp2
    go_ret2
    exact ⟨rfl, by assumption⟩

theorem main_TurnLoop (t : ByteArray) (k : Int) (w : World) (ht : t.size ≤ 1048576) : Calls Try.prog 9 #[.string t, .int .i64 k] w fun e w' => e = .returned (.bool true) ∧ Below w.heap.size w w' := by
  cases hg : goodL t.data.toList with
  | false => exact core_TurnLoop t k _ _ w ht (fun W => sTurnLoop_no1 t k W ht hg) (fun W => iTurnLoop_no1 t k W ht hg)
  | true =>
    by_cases h1 : k < 0
    · exact core_TurnLoop t k _ _ w ht (fun W => sTurnLoop_no2 t k W ht hg (by omega)) (fun W => iTurnLoop_no2 t k W ht hg h1)
    · by_cases h2 : max (t.size : Int) 1 ≤ k
      · exact core_TurnLoop t k _ _ w ht (fun W => sTurnLoop_no2 t k W ht hg (by omega)) (fun W => iTurnLoop_no3 t k W ht hg h1 h2)
      · obtain ⟨q, rfl⟩ := Int.eq_ofNat_of_zero_le (show 0 ≤ k by omega)
        exact core_TurnLoop t q _ _ w ht (fun W => sTurnLoop_yes t q W ht hg (by omega)) (fun W => iTurnLoop_yes t q W ht hg h2)

theorem walk_TurnLoop (t : ByteArray) (k : Int) (w : World) (wf0 : t.size ≤ maxLen) (wf1 : (Lit.int .i64 k).wf = true) :
    Calls Try.prog 9 #[.string t, .int .i64 k] w fun e w' => e = .returned (.bool true) ∧ Below w.heap.size w w' := by
  by_cases h0 : 1048576 < (t.size : Int)
  · exact long0_TurnLoop t k w  h0
  exact main_TurnLoop t k w (by omega)

end Go.Proofs.Ytpcebcgmbngabaa
