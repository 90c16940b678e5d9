/- Loops that can be drawn: the law of CanBeDrawn. -/
import Derived.Test.YtpcebcgmbngabaaL0
namespace Go.Proofs.Ytpcebcgmbngabaa
open Go.RowKit
set_option linter.unusedVariables false

set_option maxHeartbeats 1000000 in
theorem canBeDrawn_any (a0 : Option Addr) (n cap : Nat) (ps : List (Nat × Nat)) (B T : Nat) (w : World) (h : PairsIn 64 w B T (.slice a0 n cap) (pI ps)) (hT : T ≤ w.heap.size) (h8 : ps.length ≤ 8) :
    Calls Try.prog 54 #[.slice a0 n cap] w fun e w' => e = .returned (.bool (drawnP ps)) ∧ Below w.heap.size w w' := by
  have HE := Lib.hid (fun W (hb : Below w.heap.size w W) => areEven_any a0 n cap ps B T W (h.keep (belowSame hb hT)) (Nat.le_trans hT hb.size) h8)
  have HA := Lib.hid (fun W (hb : Below w.heap.size w W) => areEvenApart_any a0 n cap ps B T W (h.keep (belowSame hb hT)) (Nat.le_trans hT hb.size) h8)
  have HH := Lib.hid (fun W (hb : Below w.heap.size w W) => haveHalves_any a0 n cap ps B T W (h.keep (belowSame hb hT)) (Nat.le_trans hT hb.size) h8)
  have HD : Hid (drawnP ps = (evenP ps && apartP ps && halvesB ps.length (lacedP ps) (evP ps))) := Lib.hid rfl
  obtain ⟨c1, hc1⟩ : ∃ c, evenP ps = c := ⟨_, rfl⟩
  obtain ⟨c2, hc2⟩ : ∃ c, apartP ps = c := ⟨_, rfl⟩
  obtain ⟨c3, hc3⟩ : ∃ c, halvesB ps.length (lacedP ps) (evP ps) = c := ⟨_, rfl⟩
  obtain ⟨R, hR⟩ : ∃ R, drawnP ps = R := ⟨_, rfl⟩
  rw [hc1, hc2, hc3, hR] at HD
  rw [hc1] at HE
  rw [hc2] at HA
  rw [hc3] at HH
  rw [hR]
  clear h hc1 hc2 hc3 hR
  cases c1 with
  | false =>
    go_enter Try.func54, Try.ntmps54
    go_wp2_with (first | (go_at_call 52; (refine (HE.out _ (Below.refl _ _)).mono ?_); rintro e w1 ⟨rfl, hb1⟩))
    go_ret
    exact ⟨by rw [HD.out]; rfl, hb1⟩
  | true =>
    cases c2 with
    | false =>
      go_enter Try.func54, Try.ntmps54
      go_wp2_with (first | (go_at_call 52; (refine (HE.out _ (Below.refl _ _)).mono ?_); rintro e w1 ⟨rfl, hb1⟩) | (go_at_call 74; (refine (HA.out _ hb1).mono ?_); rintro e w2 ⟨rfl, hb2⟩))
      go_ret
      exact ⟨by rw [HD.out]; rfl, hb1.trans (hb2.mono hb1.size)⟩
    | true =>
      go_enter Try.func54, Try.ntmps54
      go_wp2_with (first | (go_at_call 52; (refine (HE.out _ (Below.refl _ _)).mono ?_); rintro e w1 ⟨rfl, hb1⟩) | (go_at_call 74; (refine (HA.out _ hb1).mono ?_); rintro e w2 ⟨rfl, hb2⟩; (have hb3 := Lib.hid (hb1.trans (hb2.mono hb1.size)))) | (go_at_call 75; (refine (HH.out _ hb3.out).mono ?_); rintro e w4 ⟨rfl, hb4⟩))
      go_ret
      exact ⟨by rw [HD.out]; rfl, hb3.out.trans (hb4.mono hb3.out.size)⟩

set_option maxHeartbeats 400000 in
theorem sCanBeDrawn_yes (t : ByteArray) (ps : List (Nat × Nat)) (w : World) (ht : t.size ≤ 1048576) (h : LoopP t.data.toList ps) (hg : goodL t.data.toList = true) :
    Calls Try.prog 25 #[.string t] w fun e w' => e = .returned (.tuple #[.bool (drawnP ps), .bool true]) ∧ Below w.heap.size w w' := by
  have HG := Lib.hid hg
  clear hg
  go_enter Try.func25, Try.ntmps25
  go_wp2_with (first | (go_at_call 39; (with_reducible refine (loGood_any t _ ht).mono ?_); rintro e w1 ⟨rfl, hb1⟩; rw [HG.out]) | (go_at_call 53; (with_reducible refine (loDrawn_any t ps _ h).mono ?_); rintro e w2 ⟨rfl, hb2⟩))
  go_ret2
  exact ⟨rfl, hb1.trans (hb2.mono hb1.size)⟩

set_option maxHeartbeats 1000000 in
theorem core_CanBeDrawn (t : ByteArray) (x : Bool) (y : Bool) (w : World) (ht0 : t.size ≤ 1048576)
    (hs : ∀ W : World, Calls Try.prog 25 #[.string t] W fun e w' => e = .returned (.tuple #[.bool x, .bool y]) ∧ Below W.heap.size W w')
    (hi : ∀ W : World, Calls Try.prog 26 #[.string t] W fun e w' => e = .returned (.tuple #[.bool x, .bool y]) ∧ Below W.heap.size W w') :
    Calls Try.prog 8 #[.string t] w fun e w' => e = .returned (.bool true) ∧ Below w.heap.size w w' := by
  have HS := Lib.hid hs
  have HI := Lib.hid hi
  have h0 : ¬ 1048576 < (t.size : Int) := by omega
  clear hs hi ht0
  go_enter Try.func8, Try.ntmps8
  go_wp2_with (first | (go_at_call 25; (with_reducible refine (HS.out _).mono ?_); rintro e w1 ⟨rfl, hb1⟩) | (go_at_call 26; (with_reducible refine (HI.out _).mono ?_); rintro e w2 ⟨rfl, hb2⟩))
  go_ret
  exact ⟨rfl, hb1.trans (hb2.mono hb1.size)⟩

set_option maxHeartbeats 400000 in
theorem long0_CanBeDrawn (t : ByteArray) (w : World)  (ht : 1048576 < (t.size : Int)) :
    Calls Try.prog 8 #[.string t] w fun e w' => e = .returned (.bool true) ∧ Below w.heap.size w w' := by
  go_enter Try.func8, Try.ntmps8
  go_wp2
  go_ret
  exact ⟨rfl, Below.refl _ _⟩

set_option maxHeartbeats 1000000 in
theorem told_drawn (t : ByteArray) (ps : List (Nat × Nat)) (w : World) (ht : t.size ≤ 1048576) (h8 : ps.length ≤ 8) (hl : loopL t.data.toList = some ps) :
    Calls Try.prog 51 #[.string t, .func ((.methodOf 39 "loop.example/g01324/impl.canBeDrawn")) #[] #[]] w fun e w' => e = .returned (.tuple #[.bool (drawnP ps), .bool true]) ∧ Below w.heap.size w w' := by
  have HL := Lib.hid hl
  have HLP := Lib.hid (loopL_some hl).1
  have HTS := Lib.hid (show t.size = 2 * ps.length ∧ ∀ k, k < ps.length → (ps.getD k (0, 0)).1 < (ps.getD k (0, 0)).2 ∧ (ps.getD k (0, 0)).2 < t.size from ⟨by rw [← tx_len]; exact HLP.out.len, fun k hk => by have h1 := HLP.out.lt k hk; have h2 := tx_len t; omega⟩)
  clear hl
  go_enter Try.func51, Try.ntmps51
  go_wp2_with (first | (go_at_call 40; (with_reducible refine (loopOf_yes t ps _ ht HL.out).mono ?_); rintro e w1 ⟨a0, cap, rfl, hP, hb1⟩; (have hz1 := hb1.size); (have HP := Lib.hid hP); clear hP) | (go_at_call 54; (refine (canBeDrawn_any _ _ _ ps _ _ _ (HP.out.keep (belowSame (by go_grown) (Nat.le_refl _))) (by simp) h8).mono ?_); rintro e w2 ⟨rfl, hb2⟩))
  go_ret2
  exact ⟨rfl, Below.trans (Below.trans hb1 (by go_grown)) (hb2.mono (by simp; omega))⟩

set_option maxHeartbeats 400000 in
theorem iCanBeDrawn_yes (t : ByteArray) (ps : List (Nat × Nat)) (w : World) (ht : t.size ≤ 1048576) (h8 : ps.length ≤ 8) (hl : loopL t.data.toList = some ps) :
    Calls Try.prog 26 #[.string t] w fun e w' => e = .returned (.tuple #[.bool (drawnP ps), .bool true]) ∧ Below w.heap.size w w' := by
  go_enter Try.func26, Try.ntmps26
  go_wp2_with (first | (go_at_call 51; (with_reducible refine (told_drawn t ps _ ht h8 hl).mono ?_); rintro e w1 ⟨rfl, hb1⟩))
  go_ret2
  exact ⟨rfl, hb1⟩

set_option maxHeartbeats 400000 in
theorem iCanBeDrawn_no (t : ByteArray) (w : World) (ht : t.size ≤ 1048576) (hl : loopL t.data.toList = none) :
    Calls Try.prog 26 #[.string t] w fun e w' => e = .returned (.tuple #[.bool false, .bool false]) ∧ Below w.heap.size w w' := by
  go_enter Try.func26, Try.ntmps26
  go_wp2_with (first | (go_at_call 51; (with_reducible refine (told_no_bool t _ _ ht hl).mono ?_); rintro e w1 ⟨rfl, hb1⟩))
  go_ret2
  exact ⟨rfl, hb1⟩

set_option maxHeartbeats 400000 in
theorem sCanBeDrawn_no (t : ByteArray) (w : World) (ht : t.size ≤ 1048576) (hg : goodL t.data.toList = false) :
    Calls Try.prog 25 #[.string t] w fun e w' => e = .returned (.tuple #[.bool false, .bool false]) ∧ Below w.heap.size w w' := by
  have HG := Lib.hid hg
  clear hg
  go_enter Try.func25, Try.ntmps25
  go_wp2_with (first | (go_at_call 39; (with_reducible refine (loGood_any t _ ht).mono ?_); rintro e w1 ⟨rfl, hb1⟩; rw [HG.out]))
  go_ret2
  exact ⟨rfl, hb1⟩

theorem main_CanBeDrawn (t : ByteArray) (w : World) (ht : t.size ≤ 1048576) : Calls Try.prog 8 #[.string t] w fun e w' => e = .returned (.bool true) ∧ Below w.heap.size w w' := by
  cases hl : loopL t.data.toList with
  | none => exact core_CanBeDrawn t _ _ w ht (fun W => sCanBeDrawn_no t W ht (loopL_none hl)) (fun W => iCanBeDrawn_no t W ht hl)
  | some ps =>
    obtain ⟨h1, h2⟩ := loopL_some hl
    exact core_CanBeDrawn t _ _ w ht (fun W => sCanBeDrawn_yes t ps W ht h1 h2) (fun W => iCanBeDrawn_yes t ps W ht h1.few hl)

theorem walk_CanBeDrawn (t : ByteArray) (w : World) (wf0 : t.size ≤ maxLen) :
    Calls Try.prog 8 #[.string t] w fun e w' => e = .returned (.bool true) ∧ Below w.heap.size w w' := by
  by_cases h0 : 1048576 < (t.size : Int)
  · exact long0_CanBeDrawn t w  h0
  exact main_CanBeDrawn t w (by omega)

end Go.Proofs.Ytpcebcgmbngabaa
