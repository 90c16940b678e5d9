/- Loops: what is told of a loop: whether it is one, and how many crossings. -/
import Derived.Test.YtpcebcgmbngabaaJ3
import Derived.Test.YtpcebcgmbngabaaJ4
namespace Go.Proofs.Ytpcebcgmbngabaa
open Go.RowKit
set_option linter.unusedVariables false

set_option maxHeartbeats 400000 in
theorem sIsLoop_any (t : ByteArray) (w : World) (ht : t.size ≤ 1048576) :
    Calls Try.prog 15 #[.string t] w fun e w' => e = .returned (.bool (goodL t.data.toList)) ∧ Below w.heap.size w w' := by
  go_enter Try.func15, Try.ntmps15
  go_wp2_with (first | (go_at_call 39; (with_reducible refine (loGood_any t _ ht).mono ?_); rintro e w1 ⟨rfl, hb1⟩))
  go_ret
  exact ⟨rfl, hb1⟩

theorem loopOf_yes (t : ByteArray) (ps : List (Nat × Nat)) (w : World) (ht : t.size ≤ 1048576) (hl : loopL t.data.toList = some ps) :
    Calls Try.prog 40 #[.string t] w fun e w' => ∃ a0 cap, e = .returned (.tuple #[.agg #[.slice a0 ps.length cap, .string t], .bool true]) ∧ PairsIn 64 w' w.heap.size w'.heap.size (.slice a0 ps.length cap) (pI ps) ∧ Below w.heap.size w w' := by
  refine (loopOf_any t w ht).mono ?_
  rintro e w' (⟨ps1, v, h1, rfl, hP, hb⟩ | ⟨h1, _⟩)
  · rw [hl] at h1
    cases h1
    obtain ⟨a0, cap, g, rfl, _⟩ := hP.1.view
    rw [pI_length] at hP ⊢
    exact ⟨a0, cap, rfl, hP, hb⟩
  · rw [hl] at h1; cases h1

theorem loopOf_no (t : ByteArray) (w : World) (ht : t.size ≤ 1048576) (hl : loopL t.data.toList = none) :
    Calls Try.prog 40 #[.string t] w fun e w' => e = .returned (.tuple #[.agg #[.slice none 0 0, .string ⟨#[]⟩], .bool false]) ∧ Below w.heap.size w w' := by
  refine (loopOf_any t w ht).mono ?_
  rintro e w' (⟨ps1, v, h1, _⟩ | ⟨h1, rfl, hb⟩)
  · rw [hl] at h1; cases h1
  · exact ⟨rfl, hb⟩

set_option maxHeartbeats 400000 in
theorem iIsLoop_any (t : ByteArray) (w : World) (ht : t.size ≤ 1048576) :
    Calls Try.prog 16 #[.string t] w fun e w' => e = .returned (.bool (goodL t.data.toList)) ∧ Below w.heap.size w w' := by
  cases hl : loopL t.data.toList with
  | some ps =>
    have HG := Lib.hid (loopL_some hl).2
    have HL := Lib.hid hl
    clear hl
    go_enter Try.func16, Try.ntmps16
    go_wp2_with (first | (go_at_call 40; (with_reducible refine (loopOf_yes t ps _ ht HL.out).mono ?_); rintro e w1 ⟨a0, cap, rfl, hP, hb1⟩; have hz1 := hb1.size; have HP := Lib.hid hP; clear hP))
    go_ret
    exact ⟨by rw [HG.out]; rfl, Below.trans hb1 (by go_grown)⟩
  | none =>
    have HG := Lib.hid (loopL_none hl)
    have HL := Lib.hid hl
    clear hl
    go_enter Try.func16, Try.ntmps16
    go_wp2_with (first | (go_at_call 40; (with_reducible refine (loopOf_no t _ ht HL.out).mono ?_); rintro e w1 ⟨rfl, hb1⟩; have hz1 := hb1.size))
    go_ret
    exact ⟨by rw [HG.out]; rfl, Below.trans hb1 (by go_grown)⟩

set_option maxHeartbeats 400000 in
theorem sCountL_yes (t : ByteArray) (w : World) (ht : t.size ≤ 1048576) (n : Nat) (hg : goodL t.data.toList = true) (hn : t.size = 2 * n) :
    Calls Try.prog 17 #[.string t] w fun e w' => e = .returned (.tuple #[.int .i64 n, .bool true]) ∧ Below w.heap.size w w' := by
  obtain ⟨m, hm⟩ : ∃ m, t.size = m := ⟨_, rfl⟩
  have hd : Int.tdiv (m : Int) 2 = (n : Int) := by rw [Int.tdiv_eq_ediv_of_nonneg (by omega)]; omega
  have hw : IntKind.i64.wrap (n : Int) = (n : Int) := by rw [IntKind.wrap_i64]; omega
  have HT := Lib.hid ht
  clear ht hn
  go_enter Try.func17, Try.ntmps17
  go_wp2_with (first | (go_at_call 39; (with_reducible refine (loGood_any t _ HT.out).mono ?_); rintro e w1 ⟨rfl, hb1⟩; rw [hg]))
  go_ret2
  exact ⟨rfl, hb1⟩

set_option maxHeartbeats 400000 in
theorem sCountL_no (t : ByteArray) (w : World) (ht : t.size ≤ 1048576) (hg : goodL t.data.toList = false) :
    Calls Try.prog 17 #[.string t] w fun e w' => e = .returned (.tuple #[.int .i64 0, .bool false]) ∧ Below w.heap.size w w' := by
  go_enter Try.func17, Try.ntmps17
  go_wp2_with (first | (go_at_call 39; (with_reducible refine (loGood_any t _ ht).mono ?_); rintro e w1 ⟨rfl, hb1⟩; rw [hg]))
  go_ret2
  exact ⟨rfl, hb1⟩

set_option maxHeartbeats 400000 in
theorem count_any (a : Option Addr) (n c : Nat) (w : World) : Calls Try.prog 42 #[.slice a n c] w fun e w' => e = .returned (.int .i64 n) ∧ w = w' := by
  go_enter Try.func42, Try.ntmps42
  go_wp2
  go_ret
  exact ⟨rfl, rfl⟩

set_option maxHeartbeats 1000000 in
theorem told_count (t : ByteArray) (ps : List (Nat × Nat)) (w : World) (ht : t.size ≤ 1048576) (hl : loopL t.data.toList = some ps) :
    Calls Try.prog 41 #[.string t, .func (.methodOf 39 "loop.example/g01324/impl.count") #[] #[]] w fun e w' => e = .returned (.tuple #[.int .i64 ps.length, .bool true]) ∧ Below w.heap.size w w' := by
  have HL := Lib.hid hl
  clear hl
  go_enter Try.func41, Try.ntmps41
  go_wp2_with (first | (go_at_call 40; (with_reducible refine (loopOf_yes t ps _ ht HL.out).mono ?_); rintro e w1 ⟨a0, cap, rfl, hP, hb1⟩; (have hz1 := hb1.size); (have HP := Lib.hid hP); clear hP) | (go_at_call 42; (with_reducible refine (count_any _ _ _ _).mono ?_); rintro e w2 ⟨rfl, rfl⟩))
  go_ret2
  exact ⟨rfl, Below.trans hb1 (by go_grown)⟩

end Go.Proofs.Ytpcebcgmbngabaa
