/- The steps of stars with one string, and the lines between two points. -/
import Derived.Test.YtjpillccpnjdiaaV4
import Derived.Test.YtjpillccpnjdiaaW3
namespace Go.Proofs.Ytjpillccpnjdiaa
open Go.RowKit

theorem commonDivisor_i (a b : Int) (w : World) (ha : 0 ≤ a ∧ a ≤ 1000000) (hb : 0 ≤ b ∧ b ≤ 1000000) :
    Calls Try.prog 52 #[.int .i64 a, .int .i64 b] w fun e w' => e = .returned (.int .i64 (Nat.gcd a.toNat b.toNat : Nat)) ∧ Below w.heap.size w w' := by
  obtain ⟨a, rfl⟩ := Int.eq_ofNat_of_zero_le ha.1
  obtain ⟨b, rfl⟩ := Int.eq_ofNat_of_zero_le hb.1
  exact commonDivisor_any a b w (by omega) (by omega)

theorem srCommon_i (a b : Int) (w : World) (ha : 0 ≤ a ∧ a ≤ 1000000) (hb : 0 ≤ b ∧ b ≤ 1000000) :
    Calls Try.prog 51 #[.int .i64 a, .int .i64 b] w fun e w' => e = .returned (.int .i64 (Nat.gcd a.toNat b.toNat : Nat)) ∧ Below w.heap.size w w' := by
  obtain ⟨a, rfl⟩ := Int.eq_ofNat_of_zero_le ha.1
  obtain ⟨b, rfl⟩ := Int.eq_ofNat_of_zero_le hb.1
  exact srCommon_any a b w (by omega) (by omega)

set_option maxHeartbeats 400000 in
theorem sOneString_yes (p : Nat) (w : World) (h : 3 ≤ p ∧ p ≤ 60) :
    Calls Try.prog 40 #[.int .i64 p] w (Gives (IntsIn 3) w (onesTo p (p / 2)) true) := by
  obtain ⟨h1, h2⟩ := h
  go_enter Try.func40, Try.ntmps40
  go_wp2_with (first | (go_at_call 56; (with_reducible refine (srPoints_yes _ _ (by omega)).mono ?_); rintro e w1 ⟨rfl, rfl⟩))
  go_loopw [4, 5] (fun u v wr => ∃ m : Nat, m ≤ p / 2 ∧ v = .int .i64 ((m + 1 : Nat) : Int) ∧ Ints wr w.heap.size 3 u (onesTo p m) ∧ Below w.heap.size w wr) (fun _ v _ => p - (intOf v).toNat)
  case atStart => exact ⟨0, by omega, rfl, World.ownsRow_nil _ _ _ _, Below.refl _ _⟩
  case round =>
    obtain ⟨m, hm, rfl, hI, hB⟩ := hrel
    have HI := Lib.hid hI
    have hz := hB.size
    have hl := onesTo_length p m
    clear hI
    by_cases hlt : m < p / 2
    · have ht : 2 * ((m : Int) + 1) ≤ p := by omega
      by_cases hg : Nat.gcd p (m + 1) = 1
      · have hgb : (((Nat.gcd p (m + 1) : Nat) : Int) == 1) = true := by rw [hg]; rfl
        have HY := Lib.hid (onesTo_yes p m hg)
        clear hg
        go_wp2_with (first | (go_at_call 51; refine (srCommon_i _ _ _ (by omega) (by omega)).mono ?_; rintro e w2 ⟨rfl, hb2⟩; rw [show ((m : Int) + 1).toNat = m + 1 by omega, Int.toNat_natCast]; have HI2 := Lib.hid (HI.out.later hb2); have hB2 := hB.trans (hb2.mono hz); have hz2 := hB2.size) | (at_builtin; refine wpList_append_int rfl _ _ 34 rfl (w.heap.size) 3 Try.underlying34 info_int _ _ rfl HI2.out ((m : Int) + 1) rfl (by omega) (by omega) ?_; intro v' w' hI' hg';  have hB' := HI2.out.below hB2 hz2 hg'; rw [HY.out] at hI'; have HI' := Lib.hid hI'; clear hI'))
        go_roundw
        case rel => exact ⟨m + 1, by omega, by go_num, HI'.out, hB'⟩
        case measure => simp [intOf]; omega
      · have hgb : (((Nat.gcd p (m + 1) : Nat) : Int) == 1) = false := beq_eq_false_iff_ne.2 (by omega)
        have HN := Lib.hid (onesTo_no p m hg)
        clear hg
        go_wp2_with (first | (go_at_call 51; refine (srCommon_i _ _ _ (by omega) (by omega)).mono ?_; rintro e w2 ⟨rfl, hb2⟩; rw [show ((m : Int) + 1).toNat = m + 1 by omega, Int.toNat_natCast]; have HI2 := Lib.hid (HI.out.later hb2); have hB2 := hB.trans (hb2.mono hz); have hz2 := hB2.size))
        go_roundw
        case rel => exact ⟨m + 1, by omega, by go_num, by rw [← HN.out]; exact HI2.out, hB2⟩
        case measure => simp [intOf]; omega
    · obtain rfl : m = p / 2 := by omega
      go_wp2
      go_ret2
      exact giveInts true HI.out (Nat.le_refl _) hB

set_option maxHeartbeats 400000 in
theorem sOneString_no (p : Int) (w : World) (h : ¬ (3 ≤ p ∧ p ≤ 60)) :
    Calls Try.prog 40 #[.int .i64 p] w (Gives (IntsIn 3) w [] false) := by
  go_enter Try.func40, Try.ntmps40
  go_wp2_with (first | (go_at_call 56; (with_reducible refine (srPoints_no _ _ h).mono ?_); rintro e w1 ⟨rfl, rfl⟩))
  go_ret2
  exact giveNoInts (Below.refl _ _)

set_option maxHeartbeats 400000 in
theorem iOneString_no (p : Int) (w : World) (h : ¬ (3 ≤ p ∧ p ≤ 60)) :
    Calls Try.prog 41 #[.int .i64 p] w (Gives (IntsIn 3) w [] false) := by
  go_enter Try.func41, Try.ntmps41
  go_wp2_with (go_at_call 39; (with_reducible refine (iStarsOf_no _ _ h).mono ?_); rintro e w1 ⟨v, rfl, kv, hb⟩)
  go_ret2
  exact giveNoInts hb

set_option maxHeartbeats 400000 in
theorem iOneString_yes (p : Nat) (w : World) (h : 3 ≤ p ∧ p ≤ 60) :
    Calls Try.prog 41 #[.int .i64 p] w (Gives (IntsIn 3) w (onesTo p (p / 2)) true) := by
  go_enter Try.func41, Try.ntmps41
  go_wp2_with (go_at_call 39; (with_reducible refine (iStarsOf_yes _ _ h).mono ?_); rintro e w1 ⟨v, rfl, kv, hb⟩; obtain ⟨a0, c0, g0, rfl, ha0, _, hm0, _, _, _⟩ := kv.1.view)
  have HK := Lib.hid kv
  have HA := Lib.hid ha0
  clear kv ha0
  have hz1 := hb.size
  have hl0 := upTo_length (p / 2)
  have hp2 : p ≤ 60 := h.2
  go_loopw [6, 18] (fun u v wr => ∃ m : Nat, m ≤ p / 2 ∧ v = .int .i64 m ∧ Ints wr w1.heap.size 3 u (onesTo p m) ∧ Below w1.heap.size w1 wr) (fun _ v _ => p - (intOf v).toNat)
  case atStart => exact ⟨0, by omega, rfl, World.ownsRow_nil _ _ _ _, Below.refl _ _⟩
  case round =>
    obtain ⟨m, hm, rfl, hI, hB⟩ := hrel
    have HI := Lib.hid hI
    have hz := hB.size
    have hl := onesTo_length p m
    clear hI
    by_cases hlt : m < p / 2
    · obtain rfl := HA.out (by omega)
      have kv1 := HK.out.keep (belowSame hB (Nat.le_refl _))
      have cc := kv1.1.cellAt m (by omega)
      rw [upTo_get _ _ hlt] at cc
      have hlt2 : m < (upTo (p / 2)).length := by omega
      clear kv1 hl0
      by_cases hg : Nat.gcd p (m + 1) = 1
      · have hgb : (((Nat.gcd p (m + 1) : Nat) : Int) == 1) = true := by rw [hg]; rfl
        have HY := Lib.hid (onesTo_yes p m hg)
        clear hg
        go_wp2_with (first | (go_at_call 52; refine (commonDivisor_i _ _ _ (by omega) (by omega)).mono ?_; rintro e w2 ⟨rfl, hb2⟩; rw [show ((m : Int) + 1).toNat = m + 1 by omega, Int.toNat_natCast]; have HI2 := Lib.hid (HI.out.later hb2); have hB2 := hB.trans (hb2.mono hz); have hz2 := hB2.size) | (at_builtin; refine wpList_append_int rfl _ _ 34 rfl (w1.heap.size) 3 Try.underlying34 info_int _ _ rfl HI2.out ((m : Int) + 1) rfl (by omega) (by omega) ?_; intro v' w' hI' hg';  have hB' := HI2.out.below hB2 hz2 hg'; rw [HY.out] at hI'; have HI' := Lib.hid hI'; clear hI'))
        go_roundw
        case rel => exact ⟨m + 1, by omega, by go_num, HI'.out, hB'⟩
        case measure => simp [intOf]; omega
      · have hgb : (((Nat.gcd p (m + 1) : Nat) : Int) == 1) = false := beq_eq_false_iff_ne.2 (by omega)
        have HN := Lib.hid (onesTo_no p m hg)
        clear hg
        go_wp2_with (first | (go_at_call 52; refine (commonDivisor_i _ _ _ (by omega) (by omega)).mono ?_; rintro e w2 ⟨rfl, hb2⟩; rw [show ((m : Int) + 1).toNat = m + 1 by omega, Int.toNat_natCast]; have HI2 := Lib.hid (HI.out.later hb2); have hB2 := hB.trans (hb2.mono hz); have hz2 := hB2.size))
        go_roundw
        case rel => exact ⟨m + 1, by omega, by go_num, by rw [← HN.out]; exact HI2.out, hB2⟩
        case measure => simp [intOf]; omega
    · obtain rfl : m = p / 2 := by omega
      go_wp2
      go_ret2
      exact giveInts true HI.out hz1 (hb.trans (hB.mono hz1))

end Go.Proofs.Ytjpillccpnjdiaa
