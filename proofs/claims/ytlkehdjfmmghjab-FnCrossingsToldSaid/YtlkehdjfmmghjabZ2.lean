/- The model's chords of a star. -/
import Derived.Test.YtlkehdjfmmghjabKG
import Derived.Test.YtlkehdjfmmghjabP4
namespace Go.Proofs.Ytlkehdjfmmghjab
open Go.RowKit
set_option linter.unusedVariables false

theorem putC_there (xs : List (Int × Int)) (c d : Int) (h : thereAt xs c d = true) : putC xs (c, d) = xs := by
  unfold thereAt at h
  rw [decide_eq_true_eq] at h
  rw [putC_def, if_pos h]

theorem putC_new (xs : List (Int × Int)) (c d : Int) (h : thereAt xs c d = false) : putC xs (c, d) = putAt xs c d := by
  unfold thereAt at h
  rw [decide_eq_false_iff_not] at h
  rw [putC_def, if_neg h]
  rfl

theorem srPut_any (u : Value) (xs : List (Int × Int)) (c d : Int) (B T : Nat) (w : World) (h : PairsIn 61 w B T u xs) (hT : T ≤ w.heap.size) (hB : B ≤ w.heap.size) (hn : xs.length ≤ 1000000) :
    Calls Try.prog 65 #[u, .agg #[.int .i64 c, .int .i64 d]] w fun e w' => ∃ v', e = .returned v' ∧ PairsIn 61 w' B w'.heap.size v' (putC xs (c, d)) ∧ Below w.heap.size w w' := by
  cases ht : thereAt xs c d with
  | true =>
    have hh := ht
    unfold thereAt at hh
    rw [decide_eq_true_eq] at hh
    refine (srPut_there u xs c d B T w h hT hn hh.1 hh.2).mono fun e w' ⟨he, hb⟩ => ⟨u, he, ?_, hb⟩
    rw [putC_there xs c d ht]
    exact (h.keep (belowSame hb hT)).wider (Nat.le_refl _) (Nat.le_trans hT hb.size)
  | false =>
    refine (srPut_new u xs c d B T w h hT hn ht).mono fun e w' ⟨v', he, hp, hb⟩ => ⟨v', he, ?_, hb⟩
    rw [putC_new xs c d ht]
    exact hp.wider hB (Nat.le_refl _)

theorem linesTo_succ (p s q : Nat) : putAll [] (linesTo p s (q + 1)) = putC (putAll [] (linesTo p s q)) (lineC p s q) := by
  unfold linesTo
  rw [List.range_succ, List.map_append, List.map_singleton, putAll_snoc]

theorem linesTo_length (p s q : Nat) : (putAll [] (linesTo p s q)).length ≤ q := by
  have h := putAll_length [] (linesTo p s q)
  have e : (linesTo p s q).length = q := by simp [linesTo]
  rw [e] at h
  simpa using h

set_option maxHeartbeats 600000 in
theorem srChords_any (p s : Nat) (w : World) (h : 3 ≤ p ∧ p ≤ 60 ∧ 1 ≤ s ∧ s < p) :
    Calls Try.prog 90 #[.agg #[.int .i64 p, .int .i64 s]] w fun e w' => ∃ v, e = .returned v ∧ PairsIn 61 w' w.heap.size w'.heap.size v (starC p s) ∧ Below w.heap.size w w' := by
  obtain ⟨h1, h2, h3, h4⟩ := h
  go_enter Try.func90, Try.ntmps90
  go_wp2
  go_loopw [3, 4] (fun r i wr => ∃ q : Nat, q ≤ p ∧ i = .int .i64 q ∧ PairsIn 61 wr w.heap.size wr.heap.size r (putAll [] (linesTo p s q)) ∧ Below w.heap.size w wr ∧ wr.cell? ⟨w.heap.size, 0, none⟩ = some (.int .i64 p) ∧ wr.cell? ⟨w.heap.size, 1, none⟩ = some (.int .i64 s)) (fun _ i _ => p - (intOf i).toNat)
  case atStart => exact ⟨0, by omega, rfl, PairsIn.nil _ _ _ _, by go_grown, by go_simp, by go_simp⟩
  case round =>
    obtain ⟨q, hq, rfl, hI, hB, p0, p1⟩ := hrel
    have hz := hB.size
    have HI := Lib.hid hI
    clear hI
    by_cases hlt : q < p
    · have hlen := linesTo_length p s q
      have HN := Lib.hid (linesTo_succ p s q)
      have HL := Lib.hid (show lineC p s q = (min (q : Int) (((q + s) % p : Nat) : Int), max (q : Int) (((q + s) % p : Nat) : Int)) from rfl)
      obtain ⟨r, hr⟩ : ∃ r, r = (q + s) % p := ⟨_, rfl⟩
      have hrp : r < p := by rw [hr]; exact Nat.mod_lt _ (by omega)
      rw [← hr] at HL
      have hmod : ((q : Int) + (s : Int)) % (p : Int) = (r : Int) := by rw [hr]; norm_cast
      have hs0 : 0 ≤ (q : Int) + (s : Int) := by omega
      have hp0 : (0 : Int) < (p : Int) := by omega
      have hpn : ¬ (p : Int) = 0 := by omega
      clear hr
      go_wp2_with (first | (go_at_call 107; (with_reducible refine (srChord_any _ _ _).mono ?_); rintro e w1 ⟨rfl, hb1⟩; (have B1 := hB.trans (hb1.mono (by omega))); (have d0 := cellB hb1 p0); (have d1 := cellB hb1 p1); have n1 := hb1.size) | (go_at_call 65; refine (srPut_any _ _ _ _ w.heap.size _ _ (HI.out.keep (belowSame hb1 (Nat.le_refl _))) n1 (by omega) (by omega)).mono ?_; rintro e w2 ⟨v2, rfl, hp2, hb2⟩; (have B2 := B1.trans (hb2.mono (by omega))); (have e0 := cellB hb2 d0); (have e1 := cellB hb2 d1); have HP := Lib.hid hp2; clear hp2))
      go_roundw
      case rel => exact ⟨q + 1, by omega, by go_num, by rw [HN.out, HL.out]; exact HP.out, B2, e0, e1⟩
      case measure => simp [intOf]; omega
    · obtain rfl : q = p := by omega
      go_wp2
      go_ret
      exact ⟨_, rfl, HI.out, hB⟩

theorem givePairs {w w' : World} {v : Value} {xs : List (Int × Int)} (b : Bool) {B : Nat} (hI : PairsIn 61 w' B w'.heap.size v xs) (hB : w.heap.size ≤ B) (hb : Below w.heap.size w w') : Gives (PairsIn 61) w xs b (.returned (.tuple #[v, .bool b])) w' :=
  ⟨v, rfl, hI.wider hB (Nat.le_refl _), hb⟩

set_option maxHeartbeats 400000 in
theorem sChordsOf_yes (p s : Nat) (w : World) (h : 3 ≤ p ∧ p ≤ 60 ∧ 1 ≤ s ∧ s < p) :
    Calls Try.prog 35 #[.agg #[.int .i64 p, .int .i64 s]] w (Gives (PairsIn 61) w (starC p s) true) := by
  have g : 3 ≤ (p : Int) ∧ (p : Int) ≤ 60 ∧ 1 ≤ (s : Int) ∧ (s : Int) < p := by omega
  go_enter Try.func35, Try.ntmps35
  go_wp2_with (first | (go_at_call 85; (with_reducible refine (srGood_yes _ _ _ g).mono ?_); rintro e w1 ⟨rfl, hb⟩; obtain ⟨hc, hf⟩ := bcell hb; (have hz : w.heap.size < w1.heap.size := by (have := hb.size; (try simp at this); omega)); (have hB : Below w.heap.size w w1 := by (refine Below.trans ?_ (hb.mono (by first | (simp; done) | omega | (simp; omega))); go_grown))) | (go_at_call 90; (with_reducible refine (srChords_any p s _ h).mono ?_); rintro e w2 ⟨v2, rfl, hp2, hb2⟩; have B2 := hB.trans (hb2.mono (by omega))))
  go_ret2
  exact givePairs true hp2 (by omega) B2

set_option maxHeartbeats 400000 in
theorem sChordsOf_no (p s : Int) (w : World) (h : ¬ (3 ≤ p ∧ p ≤ 60 ∧ 1 ≤ s ∧ s < p)) :
    Calls Try.prog 35 #[.agg #[.int .i64 p, .int .i64 s]] w (Gives (PairsIn 61) w [] false) := by
  go_enter Try.func35, Try.ntmps35
  go_wp2_with (first | (go_at_call 85; (with_reducible refine (srGood_no _ _ _ h).mono ?_); rintro e w1 ⟨rfl, hb⟩; obtain ⟨hc, hf⟩ := bcell hb; (have hz : w.heap.size < w1.heap.size := by (have := hb.size; (try simp at this); omega)); (have hB : Below w.heap.size w w1 := by (refine Below.trans ?_ (hb.mono (by first | (simp; done) | omega | (simp; omega))); go_grown))))
  go_ret2
  exact ⟨_, rfl, PairsIn.nil _ _ _ _, hB⟩

end Go.Proofs.Ytlkehdjfmmghjab
