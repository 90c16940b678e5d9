/- The edge of threads: where it begins, and the order of two fractions. -/
import Derived.Test.YtpcebcgmbngababEA
import Derived.Test.YtpcebcgmbngababFG
import Derived.Test.YtpcebcgmbngababC1
import Derived.Test.YtpcebcgmbngababU3
import Derived.Deep.RegionHeld3
namespace Go.Proofs.Ytpcebcgmbngabab
open Go.RowKit
set_option linter.unusedVariables false

theorem sgMeeting_e (a b c d : Int) (w : World) (h1 : isT a b) (h2 : isT c d) (hm : meetB a b c d = true) :
    Calls Try.prog 90 #[.agg #[.int .i64 a, .int .i64 b], .agg #[.int .i64 c, .int .i64 d]] w (GivesInts w (meetL a b c d)) := by
  have h := hm
  unfold meetB at h
  rw [decide_eq_true_eq] at h
  rcases h with h | h
  · rw [meetL_comm a b c d hm]; exact sgMeeting_gt a b c d w h1 h2 h.1 h.2
  · exact sgMeeting_lt a b c d w h1 h2 h.1 h.2

theorem meetingOf_e (a b c d : Int) (w : World) (h1 : isT a b) (h2 : isT c d) (hm : meetB a b c d = true) :
    Calls Try.prog 68 #[.agg #[.int .i64 a, .int .i64 b], .agg #[.int .i64 c, .int .i64 d]] w fun e w' => (∃ ax bx ay cy : Int, meetL a b c d = [ax, bx, ay, cy] ∧ e = .returned (.agg #[.int .i64 ax, .int .i64 bx, .int .i64 ay, .int .i64 cy])) ∧ Below w.heap.size w w' := by
  have h := hm
  unfold meetB at h
  rw [decide_eq_true_eq] at h
  rcases h with h | h
  · rw [meetL_comm a b c d hm]; exact meetingOf_gt a b c d w h1 h2 h.1 h.2
  · exact meetingOf_lt a b c d w h1 h2 h.1 h.2

/-- Where the edge begins, among the first n threads. -/
def startE (xs : List (Int × Int)) : Nat → Nat
  | 0 => 0
  | i + 1 => if (xs.getD (startE xs i) (0, 0)).2 ≤ (xs.getD i (0, 0)).2 then i else startE xs i

theorem startE_lt (xs : List (Int × Int)) (h0 : 0 < xs.length) : ∀ n, n ≤ xs.length → startE xs n < xs.length
  | 0, _ => h0
  | n + 1, h => by
    rw [startE]
    split
    · omega
    · exact startE_lt xs h0 n (by omega)

set_option maxHeartbeats 1000000 in
theorem edgeStart_any (u : Value) (xs : List (Int × Int)) (B T : Nat) (w : World) (h : PairsIn 82 w B T u xs) (hT : T ≤ w.heap.size) (hg : goodT xs) :
    Calls Try.prog 65 #[u] w fun e w' => e = .returned (.int .i64 (startE xs xs.length : Nat)) ∧ Below w.heap.size w w' := by
  have HU := Lib.hid h
  have hn : xs.length ≤ 30 := hg.1.2
  have hn1 : 0 < xs.length := hg.1.1
  obtain ⟨g1, c1, rfl⟩ := list_form h hn1
  clear h hg
  go_enter Try.func65, Try.ntmps65
  go_wp2
  go_loopw [3, 8] (fun c i wr => ∃ k : Nat, k ≤ xs.length ∧ i = .int .i64 k ∧ c = .int .i64 (startE xs k : Nat) ∧ Below w.heap.size w wr) (fun _ i _ => xs.length - (intOf i).toNat)
  case atStart => exact ⟨0, by omega, rfl, rfl, Below.refl _ _⟩
  case round =>
    obtain ⟨k, hk, rfl, rfl, hB⟩ := hrel
    have hz := hB.size
    by_cases hlt : k < xs.length
    · have HUr := Lib.hid (HU.out.keep (belowSame hB hT))
      have hs := startE_lt xs hn1 k hk
      have hst : startE xs (k + 1) = if (xs.getD (startE xs k) (0, 0)).2 ≤ (xs.getD k (0, 0)).2 then k else startE xs k := rfl
      obtain ⟨s, hse⟩ : ∃ s, startE xs k = s := ⟨_, rfl⟩
      rw [hse] at hs hst ⊢
      obtain ⟨a, b, hab⟩ : ∃ a b, xs.getD k (0, 0) = (a, b) := ⟨_, _, rfl⟩
      obtain ⟨a2, b2, hab2⟩ : ∃ a b, xs.getD s (0, 0) = (a, b) := ⟨_, _, rfl⟩
      obtain ⟨e0, e1⟩ := elem_cells HUr.out k hlt a b hab
      obtain ⟨f0, f1⟩ := elem_cells HUr.out s hs a2 b2 hab2
      rw [hab, hab2] at hst
      simp only at hst
      have hbw : Below wr.heap.size wr (wr.alloc (.cells #[.int .i64 a, .int .i64 b] 82)) := by go_grown
      have f2 := cellB hbw f1
      have k1 : 0 ≤ (k : Int) := by omega
      have k2 : (k : Int) < (xs.length : Int) := by omega
      have s1 : 0 ≤ (s : Int) := by omega
      have s2 : (s : Int) < (xs.length : Int) := by omega
      clear hab hab2 hse hbw f0 f1
      by_cases hb : b2 ≤ b
      · rw [if_pos hb] at hst
        have HST := Lib.hid hst
        clear hst
        go_wp2
        go_quiet (fail)
        go_wp2
        go_roundw
        case rel => exact ⟨k + 1, by omega, by go_num, by rw [HST.out], bdn (hB.alloc hz _) _⟩
        case measure => simp [intOf]; omega
      · rw [if_neg hb] at hst
        have HST := Lib.hid hst
        clear hst
        go_wp2
        go_quiet (fail)
        go_wp2
        go_roundw
        case rel => exact ⟨k + 1, by omega, by go_num, by rw [HST.out], bdn (hB.alloc hz _) _⟩
        case measure => simp [intOf]; omega
    · obtain rfl : k = xs.length := by omega
      go_wp2
      go_ret
      exact ⟨rfl, hB⟩

set_option maxHeartbeats 1000000 in
theorem compareFractions_any (P Q R S : Nat) (w : World) (h1 : P ≤ 1000000) (h2 : Q ≤ 10000) (h3 : R ≤ 1000000) (h4 : S ≤ 10000) :
    Calls Try.prog 94 #[.agg #[.int .i64 (P : Nat), .int .i64 (Q : Nat)], .agg #[.int .i64 (R : Nat), .int .i64 (S : Nat)]] w fun e w' => e = .returned (.int .i64 (cmpI ((P * S : Nat) : Int) ((R * Q : Nat) : Int))) ∧ Below w.heap.size w w' := by
  have m1 : P * S ≤ 1000000 * 10000 := Nat.mul_le_mul h1 h4
  have m2 : R * Q ≤ 1000000 * 10000 := Nat.mul_le_mul h3 h2
  have w1 : IntKind.i64.wrap ((P : Int) * (S : Int)) = ((P * S : Nat) : Int) := by rw [IntKind.wrap_i64, ← Int.natCast_mul]; omega
  have w2 : IntKind.i64.wrap ((R : Int) * (Q : Int)) = ((R * Q : Nat) : Int) := by rw [IntKind.wrap_i64, ← Int.natCast_mul]; omega
  obtain ⟨x, hx⟩ : ∃ x, ((P * S : Nat) : Int) = x := ⟨_, rfl⟩
  obtain ⟨y, hy⟩ : ∃ x, ((R * Q : Nat) : Int) = x := ⟨_, rfl⟩
  rw [hx] at w1 ⊢
  rw [hy] at w2 ⊢
  clear hx hy m1 m2
  go_enter Try.func94, Try.ntmps94
  go_wp2_with (first | (go_at_call 115; refine (cmpInt_any _ _ _).mono ?_; rintro e w1 ⟨rfl, rfl⟩))
  go_ret
  exact ⟨rfl, by go_grown⟩

end Go.Proofs.Ytpcebcgmbngabab
