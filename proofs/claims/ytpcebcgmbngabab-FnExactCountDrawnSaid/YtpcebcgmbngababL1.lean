/- Loops that can be drawn: the law of CanBeDrawn. -/
import Derived.Test.YtpcebcgmbngababL0
namespace Go.Proofs.Ytpcebcgmbngabab
open Go.RowKit
set_option linter.unusedVariables false

set_option maxHeartbeats 1000000 in
theorem canBeDrawn_any (a0 : Option Addr) (n cap : Nat) (ps : List (Nat × Nat)) (B T : Nat) (w : World) (h : PairsIn 96 w B T (.slice a0 n cap) (pI ps)) (hT : T ≤ w.heap.size) (h8 : ps.length ≤ 8) :
    Calls Try.prog 86 #[.slice a0 n cap] w fun e w' => e = .returned (.bool (drawnP ps)) ∧ Below w.heap.size w w' := by
  have HE := Lib.hid (fun W (hb : Below w.heap.size w W) => areEven_any a0 n cap ps B T W (h.keep (belowSame hb hT)) (Nat.le_trans hT hb.size) h8)
  have HA := Lib.hid (fun W (hb : Below w.heap.size w W) => areEvenApart_any a0 n cap ps B T W (h.keep (belowSame hb hT)) (Nat.le_trans hT hb.size) h8)
  have HH := Lib.hid (fun W (hb : Below w.heap.size w W) => haveHalves_any a0 n cap ps B T W (h.keep (belowSame hb hT)) (Nat.le_trans hT hb.size) h8)
  have HD : Hid (drawnP ps = (evenP ps && apartP ps && halvesB ps.length (lacedP ps) (evP ps))) := Lib.hid rfl
  obtain ⟨c1, hc1⟩ : ∃ c, evenP ps = c := ⟨_, rfl⟩
  obtain ⟨c2, hc2⟩ : ∃ c, apartP ps = c := ⟨_, rfl⟩
  obtain ⟨c3, hc3⟩ : ∃ c, halvesB ps.length (lacedP ps) (evP ps) = c := ⟨_, rfl⟩
  obtain ⟨R, hR⟩ : ∃ R, drawnP ps = R := ⟨_, rfl⟩
  rw [hc1, hc2, hc3, hR] at HD
  rw [hc1] at HE
  rw [hc2] at HA
  rw [hc3] at HH
  rw [hR]
  clear h hc1 hc2 hc3 hR
  cases c1 with
  | false =>
    go_enter Try.func86, Try.ntmps86
    go_wp2_with (first | (go_at_call 109; (refine (HE.out _ (Below.refl _ _)).mono ?_); rintro e w1 ⟨rfl, hb1⟩))
    go_ret
    exact ⟨by rw [HD.out]; rfl, hb1⟩
  | true =>
    cases c2 with
    | false =>
      go_enter Try.func86, Try.ntmps86
      go_wp2_with (first | (go_at_call 109; (refine (HE.out _ (Below.refl _ _)).mono ?_); rintro e w1 ⟨rfl, hb1⟩) | (go_at_call 110; (refine (HA.out _ hb1).mono ?_); rintro e w2 ⟨rfl, hb2⟩))
      go_ret
      exact ⟨by rw [HD.out]; rfl, hb1.trans (hb2.mono hb1.size)⟩
    | true =>
      go_enter Try.func86, Try.ntmps86
      go_wp2_with (first | (go_at_call 109; (refine (HE.out _ (Below.refl _ _)).mono ?_); rintro e w1 ⟨rfl, hb1⟩) | (go_at_call 110; (refine (HA.out _ hb1).mono ?_); rintro e w2 ⟨rfl, hb2⟩; (have hb3 := Lib.hid (hb1.trans (hb2.mono hb1.size)))) | (go_at_call 111; (refine (HH.out _ hb3.out).mono ?_); rintro e w4 ⟨rfl, hb4⟩))
      go_ret
      exact ⟨by rw [HD.out]; rfl, hb3.out.trans (hb4.mono hb3.out.size)⟩

set_option maxHeartbeats 1000000 in
theorem told_drawn (t : ByteArray) (ps : List (Nat × Nat)) (w : World) (ht : t.size ≤ 1048576) (h8 : ps.length ≤ 8) (hl : loopL t.data.toList = some ps) :
    Calls Try.prog 85 #[.string t, .func ((.methodOf 71 "loop.example/g01324/impl.canBeDrawn")) #[] #[]] w fun e w' => e = .returned (.tuple #[.bool (drawnP ps), .bool true]) ∧ Below w.heap.size w w' := by
  have HL := Lib.hid hl
  have HLP := Lib.hid (loopL_some hl).1
  have HTS := Lib.hid (show t.size = 2 * ps.length ∧ ∀ k, k < ps.length → (ps.getD k (0, 0)).1 < (ps.getD k (0, 0)).2 ∧ (ps.getD k (0, 0)).2 < t.size from ⟨by rw [← tx_len]; exact HLP.out.len, fun k hk => by have h1 := HLP.out.lt k hk; have h2 := tx_len t; omega⟩)
  clear hl
  go_enter Try.func85, Try.ntmps85
  go_wp2_with (first | (go_at_call 57; (with_reducible refine (loopOf_yes t ps _ ht HL.out).mono ?_); rintro e w1 ⟨a0, cap, rfl, hP, hb1⟩; (have hz1 := hb1.size); (have HP := Lib.hid hP); clear hP) | (go_at_call 86; (refine (canBeDrawn_any _ _ _ ps _ _ _ (HP.out.keep (belowSame (by go_grown) (Nat.le_refl _))) (by simp) h8).mono ?_); rintro e w2 ⟨rfl, hb2⟩))
  go_ret2
  exact ⟨rfl, Below.trans (Below.trans hb1 (by go_grown)) (hb2.mono (by simp; omega))⟩

end Go.Proofs.Ytpcebcgmbngabab
