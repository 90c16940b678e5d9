/- Two numbers that a text tells: the program's reader. -/
import Derived.Test.YtbgcbokddldmkaaDoorPN
import Derived.Test.YtbgcbokddldmkaaDoorDM
import Derived.Test.YtbgcbokddldmkaaDoorBA
namespace Go.Proofs.YtbgcbokddldmkaaDoor
open Go.RowKit
set_option linter.unusedVariables false

theorem list_size (l : List UInt8) : (⟨l.toArray⟩ : ByteArray).size = l.length := by
  show l.toArray.size = l.length
  simp

theorem cut_le (l : List UInt8) (c : UInt8) : (Lib.cut l [c]).1.length ≤ l.length ∧ (Lib.cut l [c]).2.1.length ≤ l.length := by
  unfold Lib.cut
  split
  · simp; omega
  · simp

theorem data_arr (l : List UInt8) : (⟨l.toArray⟩ : ByteArray).data.toList = l := by simp

theorem plain_any (s : ByteArray) (w : World) (hs : s.size ≤ 1048576) (hn : NumW w) :
    Calls Tryd.prog 111 #[.string s] w fun e w' => e = .returned (.tuple #[.int .i64 ((plainT s.data.toList).getD 0 : Nat), .bool (plainT s.data.toList).isSome]) ∧ Below w.heap.size w w' := by
  cases h : plainT s.data.toList with
  | none => exact plainNumber_no s w hs hn h
  | some n => exact plainNumber_yes s n w hs hn h

/-- The two numbers that a text tells, a byte between them. -/
def readP (c : UInt8) (l : List UInt8) : Option (Nat × Nat) :=
  if (Lib.cut l [c]).2.2 then
    match plainT (Lib.cut l [c]).1, plainT (Lib.cut l [c]).2.1 with
    | some a, some b => some (a, b)
    | _, _ => none
  else none

theorem readP_some {c : UInt8} {l : List UInt8} {a b : Nat} (h : readP c l = some (a, b)) : ∃ x y, l = x ++ c :: y ∧ plainT x = some a ∧ plainT y = some b := by
  unfold readP at h
  split at h
  · rename_i hc
    have h3 := cut_parts hc
    split at h
    · rename_i a' b' h1 h2
      simp only [Option.some.injEq, Prod.mk.injEq] at h
      obtain ⟨rfl, rfl⟩ := h
      exact ⟨_, _, h3, h1, h2⟩
    · cases h
  · cases h

theorem readP_at {c : UInt8} {x y : List UInt8} {a b : Nat} (hx : x.all (fun z => z != c) = true) (ha : plainT x = some a) (hb : plainT y = some b) : readP c (x ++ c :: y) = some (a, b) := by
  unfold readP
  rw [cut_at hx]
  simp only [if_true]
  rw [ha, hb]

set_option maxHeartbeats 4000000 in
theorem numberPair_of (t sg a b : ByteArray) (o op oq : Bool) (p q : Int) (w : World)
    (hC : ∀ W, NumW W → Calls Tryd.prog 110 #[.string t, .string sg] W fun e w' => e = .returned (.tuple #[.string a, .string b, .bool o]) ∧ ∃ n, w' = W.drewN n) (hn : NumW w)
    (hl : ∀ W, NumW W → Calls Tryd.prog 111 #[.string a] W fun e w' => e = .returned (.tuple #[.int .i64 p, .bool op]) ∧ Below W.heap.size W w')
    (hr : ∀ W, NumW W → Calls Tryd.prog 111 #[.string b] W fun e w' => e = .returned (.tuple #[.int .i64 q, .bool oq]) ∧ Below W.heap.size W w') :
    Calls Tryd.prog 81 #[.string t, .string sg] w fun e w' => e = .returned (.tuple #[.int .i64 (if o && op && oq then p else 0), .int .i64 (if o && op && oq then q else 0), .bool (o && op && oq)]) ∧ Below w.heap.size w w' := by
  have HC := Lib.hid hC
  have HL := Lib.hid hl
  have HR := Lib.hid hr
  have HN := Lib.hid hn
  clear hC hn hl hr
  cases o <;> cases op <;> cases oq
  all_goals
    first | simp only [Bool.and_true, if_true] | simp only [Bool.and_false, if_false, Bool.false_eq_true]
    go_enter Tryd.func81, Tryd.ntmps81
    go_wp2_with (first | (go_at_call 110; (refine (HC.out _ HN.out).mono ?_); rintro e w1 ⟨rfl, nn, hw1⟩; (have hb1 : Below w.heap.size w w1 := by (rw [hw1]; exact bdn (Below.refl _ _) _)); clear hw1; (have HN1 := Lib.hid (HN.out.later hb1)); (have hz1 := hb1.size)) | (go_at_call 111; (with_reducible refine (HL.out _ HN1.out).mono ?_); rintro e w2 ⟨rfl, hb2⟩; (have HN2 := Lib.hid (HN1.out.later hb2)); (have hz2 := hb2.size)) | (go_at_call 111; (with_reducible refine (HR.out _ HN2.out).mono ?_); rintro e w3 ⟨rfl, hb3⟩))
    go_ret3
    exact ⟨rfl, hb1.trans ((hb2.trans (hb3.mono hz2)).mono hz1)⟩

theorem numberPair_any (t : ByteArray) (c : UInt8) (w : World) (ht : t.size ≤ 1048576) (hn : NumW w) :
    Calls Tryd.prog 81 #[.string t, .string ⟨#[c]⟩] w fun e w' => e = .returned (.tuple #[.int .i64 (((readP c t.data.toList).getD (0, 0)).1 : Nat), .int .i64 (((readP c t.data.toList).getD (0, 0)).2 : Nat), .bool (readP c t.data.toList).isSome]) ∧ Below w.heap.size w w' := by
  have l0 : t.data.toList.length ≤ 1048576 := by rw [Array.length_toList]; exact ht
  obtain ⟨l3, l4⟩ := cut_le t.data.toList c
  have hC : ∀ W, NumW W → Calls Tryd.prog 110 #[.string t, .string ⟨#[c]⟩] W fun e w' => e = .returned (.tuple #[.string ⟨(Lib.cut t.data.toList [c]).1.toArray⟩, .string ⟨(Lib.cut t.data.toList [c]).2.1.toArray⟩, .bool (Lib.cut t.data.toList [c]).2.2]) ∧ ∃ n, w' = W.drewN n := fun W hW => by
    obtain ⟨m, hm⟩ := hW.most
    exact Any.strings_Cut Tryd.cutL t ⟨#[c]⟩ m W (by omega) hm
  have hl := fun W (h : NumW W) => plain_any ⟨(Lib.cut t.data.toList [c]).1.toArray⟩ W (by rw [list_size]; omega) h
  have hr := fun W (h : NumW W) => plain_any ⟨(Lib.cut t.data.toList [c]).2.1.toArray⟩ W (by rw [list_size]; omega) h
  dsimp only at hl hr
  have h := numberPair_of t ⟨#[c]⟩ _ _ _ _ _ _ _ w hC hn hl hr
  refine h.mono ?_
  rintro e w' ⟨rfl, hb⟩
  refine ⟨?_, hb⟩
  unfold readP
  cases (Lib.cut t.data.toList [c]).2.2 <;> cases plainT (Lib.cut t.data.toList [c]).1 <;> cases plainT (Lib.cut t.data.toList [c]).2.1 <;> rfl

end Go.Proofs.YtbgcbokddldmkaaDoor
