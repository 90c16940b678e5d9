/- The least turn of a table, and how many pairs of its chords cross. -/
import Derived.Test.YtincoaebdmikbabTQ
import Derived.Test.YtincoaebdmikbabTE
namespace Go.Proofs.Ytincoaebdmikbab
open Go.RowKit
set_option linter.unusedVariables false

theorem chordsF_good (p f : Nat) (h : 3 ≤ p ∧ p ≤ 60) : goodW (p : Int) (chordsF p f) := by
  refine ⟨by omega, by have := chordsF_length p f; omega, fun k hk => ⟨?_, fun h0 => ?_⟩⟩
  · have := chordsF_mem p f (by omega) ((chordsF p f).getD k (0, 0)) (by rw [List.getD, List.getElem?_eq_getElem hk]; exact List.getElem_mem _)
    exact this
  · have hs := chordsF_sorted p f
    unfold SortedC at hs
    rw [List.pairwise_iff_getElem] at hs
    have := hs (k - 1) k (by omega) hk (by omega)
    rw [List.getD, List.getD, List.getElem?_eq_getElem hk, List.getElem?_eq_getElem (show k - 1 < (chordsF p f).length by omega)]
    exact this

/-- The chords turned by t. -/
def turnF (p f t : Nat) : List (Int × Int) := putAll [] ((chordsF p f).map (retC (fun a => (a + (t : Int)) % (p : Int))))

theorem turnF_length (p f t : Nat) : (turnF p f t).length ≤ p := by
  have h := putAll_length [] ((chordsF p f).map (retC (fun a => (a + (t : Int)) % (p : Int))))
  have := chordsF_length p f
  rw [List.length_map] at h
  simp only [List.length_nil, Nat.zero_add] at h
  unfold turnF
  omega

theorem turnF_sort (p f t : Nat) (h : 3 ≤ p ∧ p ≤ 60) : sortL ((chordsF p f).map (retC (fun a => (a + (t : Int)) % (p : Int)))) = turnF p f t :=
  ret_same (chordsF_good p f h) (fun a => (a + (t : Int)) % (p : Int)) (turn_inj p t (by omega))

/-- Are they the same by a turn? -/
def eqT (p f t : Nat) : Bool := decide (turnF p f t = chordsF p f)

theorem turn_exists (p f : Nat) (h : 3 ≤ p ∧ p ≤ 60) : ∃ n, 1 ≤ n ∧ n ≤ p ∧ (∀ t, 1 ≤ t → t < n → eqT p f t = false) ∧ (n < p → eqT p f n = true) := by
  obtain ⟨n, h1, h2⟩ := least_of (P := fun n => n = p ∨ (1 ≤ n ∧ eqT p f n = true)) ⟨p, .inl rfl⟩
  refine ⟨n, by omega, ?_, fun t ht htn => ?_, fun hn => ?_⟩
  · rcases Nat.lt_or_ge p n with g | g
    · exact absurd (.inl rfl) (h2 p g)
    · exact g
  · cases e : eqT p f t with
    | false => rfl
    | true => exact absurd (.inr ⟨ht, e⟩) (h2 t htn)
  · rcases h1 with h1 | h1
    · omega
    · exact h1.2

set_option maxHeartbeats 2000000 in
theorem iLeastTurn_yes (p f n : Nat) (w : World) (h : 3 ≤ p ∧ p ≤ 60) (hf : f < p) (hn1 : 1 ≤ n) (hn2 : n ≤ p) (ha : ∀ t, 1 ≤ t → t < n → eqT p f t = false) (hb : n < p → eqT p f n = true) :
    Calls Try.prog 22 #[.int .i64 p, .int .i64 f] w fun e w' => e = .returned (.tuple #[.int .i64 n, .bool true]) ∧ Below w.heap.size w w' := by
  have HA := Lib.hid ha
  have HBN := Lib.hid hb
  have HG := Lib.hid (chordsF_good p f h)
  have HL := Lib.hid (chordsF_length p f)
  have HTL := Lib.hid (turnF_length p f)
  have HTS := Lib.hid (fun t => turnF_sort p f t h)
  clear ha hb
  go_enter Try.func22, Try.ntmps22
  go_wp2_with (first
    | (go_at_call 17; (with_reducible refine (iTimesChords_yes _ _ _ h hf).mono ?_); rintro e w1 ⟨v, rfl, hP, hb1⟩; have HP := Lib.hid hP; obtain ⟨a0, c0, g0, rfl, _, hm0, _⟩ := hP.pairs.view; clear hP))
  have hz0 := hb1.size
  go_loopw [8] (fun u wr => ∃ k : Nat, 1 ≤ k ∧ k ≤ n ∧ u = .int .i64 k ∧ Below w1.heap.size w1 wr) (fun u _ => n - (intOf u).toNat)
  case atStart => exact ⟨1, by omega, hn1, rfl, Below.refl _ _⟩
  case round =>
    obtain ⟨k, hk1, hk2, rfl, hB⟩ := hrel
    have hz := hB.size
    have HPK := Lib.hid (HP.out.keep (belowSame hB (Nat.le_refl _)))
    by_cases hkp : k < p
    · have hkb : 0 ≤ (k : Int) ∧ (k : Int) < (p : Int) := by omega
      by_cases hlt : k < n
      · have HE := Lib.hid (HA.out k hk1 hlt)
        go_wp2_with (first
          | (go_at_call 47; (refine (turned_any (p : Int) (k : Int) _ (chordsF p f) _ _ _ HPK.out hz HG.out hkb).mono ?_); rintro e w2 ⟨v2, rfl, hp2, hb2⟩; rw [HTS.out k] at hp2; have HP2 := Lib.hid hp2; have HPK2 := Lib.hid (HPK.out.keep (belowSame hb2 hz)); have n2 := hb2.size; obtain ⟨a2, c2, g2, rfl, _, hm2, _⟩ := hp2.pairs.view; clear hp2)
          | (go_at_call 46; (refine (equalC_any _ _ (turnF p f k) (chordsF p f) false _ _ _ _ _ HP2.out HPK2.out (by have := HTL.out k; omega) (by have := HL.out; omega) HE.out).mono ?_); rintro e w3 ⟨rfl, hb3⟩; have hB3 := (hB.trans (hb2.mono hz)).trans (hb3.mono (Nat.le_trans hz n2))))
        go_roundw
        case rel => exact ⟨k + 1, by omega, by omega, by go_num, hB3⟩
        case measure => simp [intOf]; omega
      · obtain rfl : k = n := by omega
        have HE := Lib.hid (HBN.out hkp)
        go_wp2_with (first
          | (go_at_call 47; (refine (turned_any (p : Int) (k : Int) _ (chordsF p f) _ _ _ HPK.out hz HG.out hkb).mono ?_); rintro e w2 ⟨v2, rfl, hp2, hb2⟩; rw [HTS.out k] at hp2; have HP2 := Lib.hid hp2; have HPK2 := Lib.hid (HPK.out.keep (belowSame hb2 hz)); have n2 := hb2.size; obtain ⟨a2, c2, g2, rfl, _, hm2, _⟩ := hp2.pairs.view; clear hp2)
          | (go_at_call 46; (refine (equalC_any _ _ (turnF p f k) (chordsF p f) true _ _ _ _ _ HP2.out HPK2.out (by have := HTL.out k; omega) (by have := HL.out; omega) HE.out).mono ?_); rintro e w3 ⟨rfl, hb3⟩; have hB3 := (hB.trans (hb2.mono hz)).trans (hb3.mono (Nat.le_trans hz n2))))
        go_ret2
        exact ⟨rfl, hb1.trans (hB3.mono hz0)⟩
    · obtain rfl : k = n := by omega
      go_wp2
      go_ret2
      exact ⟨rfl, hb1.trans (hB.mono hz0)⟩

set_option maxHeartbeats 400000 in
theorem iLeastTurn_no (p f : Int) (w : World) (h : ¬ ((3 ≤ p ∧ p ≤ 60) ∧ (0 ≤ f ∧ f < p))) :
    Calls Try.prog 22 #[.int .i64 p, .int .i64 f] w fun e w' => e = .returned (.tuple #[.int .i64 0, .bool false]) ∧ Below w.heap.size w w' := by
  go_enter Try.func22, Try.ntmps22
  go_wp2_with (first | (go_at_call 17; (with_reducible refine (iTimesChords_no _ _ _ h).mono ?_); rintro e w1 ⟨v, rfl, hP, hb1⟩))
  go_ret2
  exact ⟨rfl, hb1⟩

set_option maxHeartbeats 2000000 in
theorem sLeastTurn_yes (p f n : Nat) (w : World) (h : 3 ≤ p ∧ p ≤ 60) (hf : f < p) (hn1 : 1 ≤ n) (hn2 : n ≤ p) (ha : ∀ t, 1 ≤ t → t < n → eqT p f t = false) (hb : n < p → eqT p f n = true) :
    Calls Try.prog 21 #[.int .i64 p, .int .i64 f] w fun e w' => e = .returned (.tuple #[.int .i64 n, .bool true]) ∧ Below w.heap.size w w' := by
  have g : (3 ≤ (p : Int) ∧ (p : Int) ≤ 60) ∧ (0 ≤ (f : Int) ∧ (f : Int) < p) := by omega
  have HA := Lib.hid ha
  have HBN := Lib.hid hb
  have HG := Lib.hid (chordsF_good p f h)
  have HL := Lib.hid (chordsF_length p f)
  have HTL := Lib.hid (turnF_length p f)
  clear ha hb
  go_enter Try.func21, Try.ntmps21
  go_wp2_with (first
    | (go_at_call 29; (with_reducible refine (taGood_yes _ _ _ g).mono ?_); rintro e w1 ⟨rfl, rfl⟩)
    | (go_at_call 40; (with_reducible refine (taChords_any _ _ _ h hf).mono ?_); rintro e w1 ⟨v, rfl, hP, hb1⟩; have HP := Lib.hid hP; obtain ⟨a0, c0, g0, rfl, _, hm0, _⟩ := hP.pairs.view; clear hP))
  have hz0 := hb1.size
  go_loopw [7] (fun u wr => ∃ k : Nat, 1 ≤ k ∧ k ≤ n ∧ u = .int .i64 k ∧ Below w1.heap.size w1 wr) (fun u _ => n - (intOf u).toNat)
  case atStart => exact ⟨1, by omega, hn1, rfl, Below.refl _ _⟩
  case round =>
    obtain ⟨k, hk1, hk2, rfl, hB⟩ := hrel
    have hz := hB.size
    have HPK := Lib.hid (HP.out.keep (belowSame hB (Nat.le_refl _)))
    by_cases hkp : k < p
    · have hkb : 0 ≤ (k : Int) ∧ (k : Int) < (p : Int) := by omega
      by_cases hlt : k < n
      · have HE := Lib.hid (HA.out k hk1 hlt)
        go_wp2_with (first
          | (go_at_call 45; (refine (cdTurn_any (p : Int) (k : Int) _ (chordsF p f) _ _ _ HPK.out hz HG.out hkb).mono ?_); rintro e w2 ⟨v2, rfl, hp2, hb2⟩; have HP2 := Lib.hid hp2; have HPK2 := Lib.hid (HPK.out.keep (belowSame hb2 hz)); have n2 := hb2.size; obtain ⟨a2, c2, g2, rfl, _, hm2, _⟩ := hp2.pairs.view; clear hp2)
          | (go_at_call 44; (refine (taSame_any _ _ (turnF p f k) (chordsF p f) false _ _ _ _ _ HP2.out HPK2.out (by have := HTL.out k; omega) (by have := HL.out; omega) HE.out).mono ?_); rintro e w3 ⟨rfl, hb3⟩; have hB3 := (hB.trans (hb2.mono hz)).trans (hb3.mono (Nat.le_trans hz n2))))
        go_roundw
        case rel => exact ⟨k + 1, by omega, by omega, by go_num, hB3⟩
        case measure => simp [intOf]; omega
      · obtain rfl : k = n := by omega
        have HE := Lib.hid (HBN.out hkp)
        go_wp2_with (first
          | (go_at_call 45; (refine (cdTurn_any (p : Int) (k : Int) _ (chordsF p f) _ _ _ HPK.out hz HG.out hkb).mono ?_); rintro e w2 ⟨v2, rfl, hp2, hb2⟩; have HP2 := Lib.hid hp2; have HPK2 := Lib.hid (HPK.out.keep (belowSame hb2 hz)); have n2 := hb2.size; obtain ⟨a2, c2, g2, rfl, _, hm2, _⟩ := hp2.pairs.view; clear hp2)
          | (go_at_call 44; (refine (taSame_any _ _ (turnF p f k) (chordsF p f) true _ _ _ _ _ HP2.out HPK2.out (by have := HTL.out k; omega) (by have := HL.out; omega) HE.out).mono ?_); rintro e w3 ⟨rfl, hb3⟩; have hB3 := (hB.trans (hb2.mono hz)).trans (hb3.mono (Nat.le_trans hz n2))))
        go_ret2
        exact ⟨rfl, hb1.trans (hB3.mono hz0)⟩
    · obtain rfl : k = n := by omega
      obtain rfl : k = p := by omega
      go_wp2
      go_ret2
      exact ⟨rfl, hb1.trans (hB.mono hz0)⟩

set_option maxHeartbeats 400000 in
theorem sLeastTurn_no (p f : Int) (w : World) (h : ¬ ((3 ≤ p ∧ p ≤ 60) ∧ (0 ≤ f ∧ f < p))) :
    Calls Try.prog 21 #[.int .i64 p, .int .i64 f] w fun e w' => e = .returned (.tuple #[.int .i64 0, .bool false]) ∧ Below w.heap.size w w' := by
  go_enter Try.func21, Try.ntmps21
  go_wp2_with (first | (go_at_call 29; (with_reducible refine (taGood_no _ _ _ h).mono ?_); rintro e w1 ⟨rfl, rfl⟩))
  go_ret2
  exact ⟨rfl, Below.refl _ _⟩

set_option maxHeartbeats 400000 in
theorem walk_LeastTurnOfTable (p f : Int) (w : World) (_ : (Lit.int .i64 p).wf = true) (_ : (Lit.int .i64 f).wf = true) :
    Calls Try.prog 6 #[.int .i64 p, .int .i64 f] w fun e w' => e = .returned (.bool true) ∧ Below w.heap.size w w' := by
  by_cases h : (3 ≤ p ∧ p ≤ 60) ∧ (0 ≤ f ∧ f < p)
  · obtain ⟨p, rfl⟩ := Int.eq_ofNat_of_zero_le (show 0 ≤ p by omega)
    obtain ⟨f, rfl⟩ := Int.eq_ofNat_of_zero_le (show 0 ≤ f by omega)
    have h1 : 3 ≤ p ∧ p ≤ 60 := by omega
    have h2 : f < p := by omega
    obtain ⟨n, n1, n2, n3, n4⟩ := turn_exists p f h1
    have H3 := Lib.hid n3
    have H4 := Lib.hid n4
    clear h n3 n4
    go_enter Try.func6, Try.ntmps6
    go_wp2_with (first | (go_at_call 21; (with_reducible refine (sLeastTurn_yes p f n _ h1 h2 n1 n2 H3.out H4.out).mono ?_); rintro e w1 ⟨rfl, hb1⟩) | (go_at_call 22; (with_reducible refine (iLeastTurn_yes p f n _ h1 h2 n1 n2 H3.out H4.out).mono ?_); rintro e w2 ⟨rfl, hb2⟩))
    go_ret
    exact ⟨rfl, hb1.trans (hb2.mono hb1.size)⟩
  · go_enter Try.func6, Try.ntmps6
    go_wp2_with (first | (go_at_call 21; (with_reducible refine (sLeastTurn_no _ _ _ h).mono ?_); rintro e w1 ⟨rfl, hb1⟩) | (go_at_call 22; (with_reducible refine (iLeastTurn_no _ _ _ h).mono ?_); rintro e w2 ⟨rfl, hb2⟩))
    go_ret
    exact ⟨rfl, hb1.trans (hb2.mono hb1.size)⟩

end Go.Proofs.Ytincoaebdmikbab
