/- How many pairs of chords of a star cross, and how many cross a chord: the laws. -/
import Derived.Test.YtlkehdjfmmghjabZ8
namespace Go.Proofs.Ytlkehdjfmmghjab
open Go.RowKit
set_option linter.unusedVariables false

theorem flatP_take (xs : List (Int × Int)) (k : Nat) (h : k ≤ xs.length) : (flatP xs).take (k * 2) = flatP (xs.take k) := by
  have e := flatP_append (xs.take k) (xs.drop k)
  rw [List.take_append_drop] at e
  have hl : (flatP (xs.take k)).length = k * 2 := by rw [flatP_length, List.length_take, Nat.min_eq_left h]
  rw [e, List.take_append_of_le_length (by omega), List.take_of_length_le (by omega)]

theorem PairsIn.take {e : TypeId} {w : World} {B T g n cap k : Nat} {xs : List (Int × Int)} (h : PairsIn e w B T (.slice (some ⟨g, 0, none⟩) n cap) xs) (hk : k ≤ xs.length) : PairsIn e w B T (.slice (some ⟨g, 0, none⟩) k cap) (xs.take k) := by
  obtain ⟨⟨hl, ⟨hv, hn⟩ | ⟨g', c, cur, hv, hB, hg, hn, hm, hs, ht⟩⟩, ho⟩ := h
  · cases hv
  · cases hv
    have hkl : (xs.take k).length = k := by simp; omega
    refine ⟨⟨by simp [flatP_length, hkl], .inr ⟨g, cap, cur, by rw [hkl], hB, hg, by omega, hm, hs, ?_⟩⟩, fun j hj => ho j hj⟩
    rw [hkl, ← flatP_take xs k hk, List.map_take, ← ht, List.take_take, Nat.min_eq_left (by omega)]

theorem starC_pairs (p s : Nat) (h : 1 ≤ s ∧ s < p) (k : Nat) (hk : k < (starC p s).length) : ((starC p s).getD k (0, 0)).1 < ((starC p s).getD k (0, 0)).2 := (starC_order p s h k hk).2.1

set_option maxHeartbeats 400000 in
theorem sCountCrossings_yes (p s : Nat) (w : World) (h : 3 ≤ p ∧ p ≤ 60 ∧ 1 ≤ s ∧ s < p) :
    Calls Try.prog 39 #[.agg #[.int .i64 p, .int .i64 s]] w fun e w' => e = .returned (.tuple #[.int .i64 (pairsC (starC p s) : Nat), .bool true]) ∧ Below w.heap.size w w' := by
  have g : 3 ≤ (p : Int) ∧ (p : Int) ≤ 60 ∧ 1 ≤ (s : Int) ∧ (s : Int) < p := by omega
  have hl := starC_length p s
  have HO := Lib.hid (starC_pairs p s h.2.2)
  go_enter Try.func39, Try.ntmps39
  go_wp2_with (first | (go_at_call 85; (with_reducible refine (srGood_yes _ _ _ g).mono ?_); rintro e w1 ⟨rfl, hb⟩; (have c0 : w1.cell? ⟨w.heap.size, 0, none⟩ = some (.int .i64 p) := cellB hb (by first | assumption | go_simp)); (have c1 : w1.cell? ⟨w.heap.size, 1, none⟩ = some (.int .i64 s) := cellB hb (by first | assumption | go_simp)); (have hz : w.heap.size < w1.heap.size := by (have := hb.size; (try simp at this); omega)); (have hB : Below w.heap.size w w1 := by (refine Below.trans ?_ (hb.mono (by first | (simp; done) | omega | (simp; omega))); go_grown)); clear hb) | (go_at_call 90; (with_reducible refine (srChords_any p s _ h).mono ?_); rintro e w2 ⟨v2, rfl, hp2, hb2⟩; have B2 := hB.trans (hb2.mono (by omega)); have n2 := B2.size) | (go_at_call 93; (with_reducible refine (srCount_any _ _ _ _ _ hp2 HO.out (by omega)).mono ?_); rintro e w3 ⟨rfl, hb3⟩))
  go_ret2
  exact ⟨rfl, B2.trans (hb3.mono n2)⟩

set_option maxHeartbeats 400000 in
theorem sCountCrossings_no (p s : Int) (w : World) (h : ¬ (3 ≤ p ∧ p ≤ 60 ∧ 1 ≤ s ∧ s < p)) :
    Calls Try.prog 39 #[.agg #[.int .i64 p, .int .i64 s]] w fun e w' => e = .returned (.tuple #[.int .i64 0, .bool false]) ∧ Below w.heap.size w w' := by
  go_enter Try.func39, Try.ntmps39
  go_wp2_with (first | (go_at_call 85; (with_reducible refine (srGood_no _ _ _ h).mono ?_); rintro e w1 ⟨rfl, hb⟩; obtain ⟨hc, hf⟩ := bcell hb; (have hz : w.heap.size < w1.heap.size := by (have := hb.size; (try simp at this); omega)); (have hB : Below w.heap.size w w1 := by (refine Below.trans ?_ (hb.mono (by first | (simp; done) | omega | (simp; omega))); go_grown))))
  go_ret2
  exact ⟨rfl, hB⟩

set_option maxHeartbeats 400000 in
theorem iCountCrossings_no (p s : Int) (w : World) (h : ¬ (3 ≤ p ∧ p ≤ 60 ∧ 1 ≤ s ∧ s < p)) :
    Calls Try.prog 36 #[.agg #[.int .i64 p, .int .i64 s]] w fun e w' => e = .returned (.tuple #[.int .i64 0, .bool false]) ∧ Below w.heap.size w w' := by
  go_enter Try.func36, Try.ntmps36
  go_wp2_with (first | (go_at_call 34; (with_reducible refine (iChordsOf_no _ _ _ h).mono ?_); rintro e w2 ⟨v2, rfl, hp2, hb2⟩; simp only [World.size_alloc] at hb2))
  go_ret2
  exact ⟨rfl, Below.trans (by go_grown) (hb2.mono (by omega))⟩

set_option maxHeartbeats 1000000 in
theorem iCountCrossings_yes (p s : Nat) (w : World) (h : 3 ≤ p ∧ p ≤ 60 ∧ 1 ≤ s ∧ s < p) :
    Calls Try.prog 36 #[.agg #[.int .i64 p, .int .i64 s]] w fun e w' => e = .returned (.tuple #[.int .i64 (pairsC (starC p s) : Nat), .bool true]) ∧ Below w.heap.size w w' := by
  obtain ⟨xs, hxs⟩ : ∃ xs, xs = starC p s := ⟨_, rfl⟩
  have hl := starC_length p s
  have HXS := Lib.hid hxs
  rw [← hxs] at hl ⊢
  clear hxs
  go_enter Try.func36, Try.ntmps36
  go_wp2_with (first | (go_at_call 34; (with_reducible refine (iChordsOf_yes p s _ h).mono ?_); rw [← HXS.out]; rintro e w2 ⟨v2, rfl, hp2, hb2⟩; simp only [World.size_alloc] at hb2 hp2; obtain ⟨a1, c1, g1, rfl, ha1, hmm, hx1, hy1⟩ := hp2.pairs.view; obtain ⟨hcap1, hcap2⟩ := hp2.pairs.cap_le; unfold maxLen at hcap2; have B2 : Below w.heap.size w w2 := Below.trans (by go_grown) (hb2.mono (by omega)); have n2 := B2.size; have HP := Lib.hid hp2; have X := Lib.hid hx1; have Y := Lib.hid hy1; have HA := Lib.hid ha1; clear hp2 hx1 hy1 ha1 hb2))
  go_loopw [6, 18] (fun c i wr => ∃ k m : Nat, k ≤ xs.length ∧ i = .int .i64 k ∧ c = .int .i64 m ∧ m = pairsC (xs.take k) ∧ Below w.heap.size w wr ∧ Below w2.heap.size w2 wr) (fun _ i _ => xs.length - (intOf i).toNat)
  case atStart => exact ⟨0, 0, by omega, rfl, rfl, by simp [pairsC], B2, Below.refl _ _⟩
  case round =>
    obtain ⟨k, m, hk, rfl, rfl, hm, hB, hB2⟩ := hrel
    have hz := hB.size
    have hz2 := hB2.size
    by_cases hlt : k < xs.length
    · obtain rfl := HA.out (by omega)
      have hstep := pairsC_take xs k hlt
      obtain ⟨x, hx⟩ : ∃ x, x = (xs.getD k (0, 0)).1 := ⟨_, rfl⟩
      obtain ⟨y, hy⟩ : ∃ y, y = (xs.getD k (0, 0)).2 := ⟨_, rfl⟩
      have cx : wr.cell? ⟨g1, k * 2, none⟩ = _ := (hB2.cell (p := ⟨g1, k * 2, none⟩) (World.block_lt_of_cell? w2 _ (X.out k hlt))).trans (X.out k hlt)
      have cy : wr.cell? ⟨g1, k * 2 + 1, none⟩ = _ := (hB2.cell (p := ⟨g1, k * 2 + 1, none⟩) (World.block_lt_of_cell? w2 _ (Y.out k hlt))).trans (Y.out k hlt)
      rw [← hx] at cx
      rw [← hy] at cy
      rw [show xs.getD k (0, 0) = (x, y) by rw [hx, hy]] at hstep
      have h1 := cntC_le (x, y) (xs.take k)
      have h2 := pairsC_le (xs.take k)
      have hlk : (xs.take k).length = k := by rw [List.length_take]; omega
      have h3 : (xs.take k).length * (xs.take k).length ≤ 60 * 60 := Nat.mul_le_mul (by omega) (by omega)
      obtain ⟨q, hq⟩ : ∃ q, q = cntC (x, y) (xs.take k) := ⟨_, rfl⟩
      rw [← hq] at hstep h1
      rw [← hm] at hstep h2
      have HS := Lib.hid hstep
      have HQ := Lib.hid hq
      have hm2 : m ≤ 3600 := by omega
      have hq2 : q ≤ 60 := by omega
      clear hm hstep hq hx hy h1 h2 h3 hlk
      have HT := Lib.hid ((HP.out.keep (belowSame hB2 (Nat.le_refl _))).take (k := k) (by omega))
      have k1 : (0 : Int) ≤ (k : Int) := by omega
      have k2 : (k : Int) ≤ (c1 : Int) := by omega
      have k3 : k ≤ c1 := by omega
      have hw1 : IntKind.i64.wrap ((m : Int) + (q : Int)) = (m : Int) + (q : Int) := by rw [IntKind.wrap_i64]; omega
      go_wp2
      go_region_held3 (fun w' => w'.cell? ⟨wr.heap.size, 0, none⟩ = some (.int .i64 x) ∧ w'.cell? ⟨wr.heap.size, 1, none⟩ = some (.int .i64 y)) (go_keep)
        (first | (go_at_call 91; refine (countCrossing_any _ (xs.take k) x y _ _ _ (HT.out.keep (belowSame (w' := (wr.alloc (.cells #[.int .i64 x, .int .i64 y] 61)).drew) (by go_grown) hz2)) (by rw [List.length_take]; omega)).mono ?_; rw [← HQ.out]; rintro e w1 ⟨rfl, hb⟩; (have c0 : w1.cell? ⟨wr.heap.size, 0, none⟩ = some (.int .i64 x) := cellB hb (by go_simp)); (have c1' : w1.cell? ⟨wr.heap.size, 1, none⟩ = some (.int .i64 y) := cellB hb (by go_simp)); (have hB1 : Below wr.heap.size wr w1 := Below.trans (by go_grown) (hb.mono (by first | omega | (simp; done) | (simp; omega)))); clear hb))
      go_wp2
      go_roundw
      case rel => exact ⟨k + 1, m + q, by omega, by go_num, by go_num, by rw [HS.out], hB.trans (hB1.mono hz), hB2.trans (hB1.mono hz2)⟩
      case measure => simp [intOf]; omega
    · obtain rfl : k = xs.length := by omega
      rw [List.take_length] at hm
      subst hm
      go_wp2
      go_ret2
      exact ⟨rfl, hB⟩

set_option maxHeartbeats 400000 in
theorem iCrossingsOn_yes (p s : Nat) (a b : Int) (w : World) (h : 3 ≤ p ∧ p ≤ 60 ∧ 1 ≤ s ∧ s < p) (hc : 0 ≤ a ∧ a < b ∧ b < p) :
    Calls Try.prog 41 #[.agg #[.int .i64 p, .int .i64 s], .agg #[.int .i64 a, .int .i64 b]] w fun e w' => e = .returned (.tuple #[.int .i64 (cntC (a, b) (starC p s) : Nat), .bool true]) ∧ Below w.heap.size w w' := by
  have hl := starC_length p s
  go_enter Try.func41, Try.ntmps41
  go_wp2_with (first
    | (go_at_call 34; (with_reducible refine (iChordsOf_yes p s _ h).mono ?_); rintro e w2 ⟨v2, rfl, hp2, hb2⟩; (have d0 : w2.cell? ⟨w.heap.size, 0, none⟩ = some (.int .i64 p) := cellB hb2 (by go_simp)); (have d2 : w2.cell? ⟨w.heap.size + 1, 0, none⟩ = some (.int .i64 a) := cellB hb2 (by go_simp)); (have d3 : w2.cell? ⟨w.heap.size + 1, 1, none⟩ = some (.int .i64 b) := cellB hb2 (by go_simp)); simp only [World.size_alloc] at hb2 hp2; have B2 : Below w.heap.size w w2 := Below.trans (by go_grown) (hb2.mono (by omega)); have n2 := B2.size; have HP := Lib.hid hp2; clear hp2 hb2)
    | (go_at_call 94; (with_reducible refine (isChord_yes p a b _ hc).mono ?_); rintro e w3 ⟨rfl, hb3⟩; (have f2 : w3.cell? ⟨w.heap.size + 1, 0, none⟩ = some (.int .i64 a) := cellB hb3 d2); (have f3 : w3.cell? ⟨w.heap.size + 1, 1, none⟩ = some (.int .i64 b) := cellB hb3 d3); have B3 := B2.trans (hb3.mono n2); have n3 := B3.size; have HP3 := Lib.hid (HP.out.keep (belowSame hb3 (Nat.le_refl _))))
    | (go_at_call 91; (with_reducible refine (countCrossing_any _ _ a b _ _ _ HP3.out (by omega)).mono ?_); rintro e w4 ⟨rfl, hb4⟩; have B4 := B3.trans (hb4.mono n3)))
  go_ret2
  exact ⟨rfl, B4⟩

set_option maxHeartbeats 400000 in
theorem iCrossingsOn_no (p s a b : Int) (w : World) (h : ¬ ((3 ≤ p ∧ p ≤ 60 ∧ 1 ≤ s ∧ s < p) ∧ (0 ≤ a ∧ a < b ∧ b < p))) :
    Calls Try.prog 41 #[.agg #[.int .i64 p, .int .i64 s], .agg #[.int .i64 a, .int .i64 b]] w fun e w' => e = .returned (.tuple #[.int .i64 0, .bool false]) ∧ Below w.heap.size w w' := by
  by_cases g : 3 ≤ p ∧ p ≤ 60 ∧ 1 ≤ s ∧ s < p
  · have hc : ¬ (0 ≤ a ∧ a < b ∧ b < p) := fun hc => h ⟨g, hc⟩
    obtain ⟨p, rfl⟩ := Int.eq_ofNat_of_zero_le (show 0 ≤ p by omega)
    obtain ⟨s, rfl⟩ := Int.eq_ofNat_of_zero_le (show 0 ≤ s by omega)
    have h' : 3 ≤ p ∧ p ≤ 60 ∧ 1 ≤ s ∧ s < p := by omega
    clear h g
    go_enter Try.func41, Try.ntmps41
    go_wp2_with (first
      | (go_at_call 34; (with_reducible refine (iChordsOf_yes p s _ h').mono ?_); rintro e w2 ⟨v2, rfl, hp2, hb2⟩; (have d0 : w2.cell? ⟨w.heap.size, 0, none⟩ = some (.int .i64 p) := cellB hb2 (by go_simp)); (have d2 : w2.cell? ⟨w.heap.size + 1, 0, none⟩ = some (.int .i64 a) := cellB hb2 (by go_simp)); (have d3 : w2.cell? ⟨w.heap.size + 1, 1, none⟩ = some (.int .i64 b) := cellB hb2 (by go_simp)); simp only [World.size_alloc] at hb2 hp2; have B2 : Below w.heap.size w w2 := Below.trans (by go_grown) (hb2.mono (by omega)); have n2 := B2.size; clear hp2 hb2)
      | (go_at_call 94; (with_reducible refine (isChord_no _ a b _ hc).mono ?_); rintro e w3 ⟨rfl, hb3⟩; have B3 := B2.trans (hb3.mono n2)))
    go_ret2
    exact ⟨rfl, B3⟩
  · go_enter Try.func41, Try.ntmps41
    go_wp2_with (first | (go_at_call 34; (with_reducible refine (iChordsOf_no _ _ _ g).mono ?_); rintro e w2 ⟨v2, rfl, hp2, hb2⟩; simp only [World.size_alloc] at hb2; have B2 : Below w.heap.size w w2 := Below.trans (by go_grown) (hb2.mono (by omega))))
    go_ret2
    exact ⟨rfl, B2⟩

set_option maxHeartbeats 400000 in
theorem sCrossingsOn_no (p s a b : Int) (w : World) (h : ¬ ((3 ≤ p ∧ p ≤ 60 ∧ 1 ≤ s ∧ s < p) ∧ (0 ≤ a ∧ a < b ∧ b < p))) :
    Calls Try.prog 47 #[.agg #[.int .i64 p, .int .i64 s], .agg #[.int .i64 a, .int .i64 b]] w fun e w' => e = .returned (.tuple #[.int .i64 0, .bool false]) ∧ Below w.heap.size w w' := by
  by_cases g : 3 ≤ p ∧ p ≤ 60 ∧ 1 ≤ s ∧ s < p
  · have hc : ¬ (0 ≤ a ∧ a < b ∧ b < p) := fun hc => h ⟨g, hc⟩
    go_enter Try.func47, Try.ntmps47
    go_wp2_with (first | (go_at_call 85; (with_reducible refine (srGood_yes _ _ _ g).mono ?_); rintro e w1 ⟨rfl, hb⟩; (have c0 : w1.cell? ⟨w.heap.size, 0, none⟩ = some (.int .i64 p) := cellB hb (by first | assumption | go_simp)); (have c1 : w1.cell? ⟨w.heap.size, 1, none⟩ = some (.int .i64 s) := cellB hb (by first | assumption | go_simp)); (have c2 : w1.cell? ⟨w.heap.size + 1, 0, none⟩ = some (.int .i64 a) := cellB hb (by first | assumption | go_simp)); (have c3 : w1.cell? ⟨w.heap.size + 1, 1, none⟩ = some (.int .i64 b) := cellB hb (by first | assumption | go_simp)); (have hz : w.heap.size + 1 < w1.heap.size := by (have := hb.size; (try simp at this); omega)); (have hB : Below w.heap.size w w1 := by (refine Below.trans ?_ (hb.mono (by first | (simp; done) | omega | (simp; omega))); go_grown)); clear hb) | (go_at_call 99; (with_reducible refine (srIs_no _ a b _ ⟨g.1, g.2.1⟩ hc).mono ?_); rintro e w3 ⟨rfl, hb3⟩; have B3 := hB.trans (hb3.mono (by omega))))
    go_ret2
    exact ⟨rfl, B3⟩
  · go_enter Try.func47, Try.ntmps47
    go_wp2_with (first | (go_at_call 85; (with_reducible refine (srGood_no _ _ _ g).mono ?_); rintro e w1 ⟨rfl, hb⟩; (have c0 : w1.cell? ⟨w.heap.size, 0, none⟩ = some (.int .i64 p) := cellB hb (by first | assumption | go_simp)); (have c1 : w1.cell? ⟨w.heap.size, 1, none⟩ = some (.int .i64 s) := cellB hb (by first | assumption | go_simp)); (have c2 : w1.cell? ⟨w.heap.size + 1, 0, none⟩ = some (.int .i64 a) := cellB hb (by first | assumption | go_simp)); (have c3 : w1.cell? ⟨w.heap.size + 1, 1, none⟩ = some (.int .i64 b) := cellB hb (by first | assumption | go_simp)); (have hz : w.heap.size + 1 < w1.heap.size := by (have := hb.size; (try simp at this); omega)); (have hB : Below w.heap.size w w1 := by (refine Below.trans ?_ (hb.mono (by first | (simp; done) | omega | (simp; omega))); go_grown)); clear hb))
    go_ret2
    exact ⟨rfl, hB⟩

set_option maxHeartbeats 1000000 in
theorem sCrossingsOn_yes (p s : Nat) (a b : Int) (w : World) (h : 3 ≤ p ∧ p ≤ 60 ∧ 1 ≤ s ∧ s < p) (hc : 0 ≤ a ∧ a < b ∧ b < p) :
    Calls Try.prog 47 #[.agg #[.int .i64 p, .int .i64 s], .agg #[.int .i64 a, .int .i64 b]] w fun e w' => e = .returned (.tuple #[.int .i64 (cntC (a, b) (starC p s) : Nat), .bool true]) ∧ Below w.heap.size w w' := by
  have g : 3 ≤ (p : Int) ∧ (p : Int) ≤ 60 ∧ 1 ≤ (s : Int) ∧ (s : Int) < p := by omega
  obtain ⟨xs, hxs⟩ : ∃ xs, xs = starC p s := ⟨_, rfl⟩
  have hl := starC_length p s
  have HXS := Lib.hid hxs
  have HO := Lib.hid (starC_pairs p s h.2.2)
  have HAB := Lib.hid hc.2.1
  rw [← hxs] at hl HO ⊢
  clear hxs
  go_enter Try.func47, Try.ntmps47
  go_wp2_with (first
    | (go_at_call 85; (with_reducible refine (srGood_yes _ _ _ g).mono ?_); rintro e w1 ⟨rfl, hb⟩; (have c0 : w1.cell? ⟨w.heap.size, 0, none⟩ = some (.int .i64 p) := cellB hb (by first | assumption | go_simp)); (have c1 : w1.cell? ⟨w.heap.size, 1, none⟩ = some (.int .i64 s) := cellB hb (by first | assumption | go_simp)); (have c2 : w1.cell? ⟨w.heap.size + 1, 0, none⟩ = some (.int .i64 a) := cellB hb (by first | assumption | go_simp)); (have c3 : w1.cell? ⟨w.heap.size + 1, 1, none⟩ = some (.int .i64 b) := cellB hb (by first | assumption | go_simp)); (have hz : w.heap.size + 1 < w1.heap.size := by (have := hb.size; (try simp at this); omega)); (have hB : Below w.heap.size w w1 := by (refine Below.trans ?_ (hb.mono (by first | (simp; done) | omega | (simp; omega))); go_grown)); clear hb)
    | (go_at_call 99; (with_reducible refine (srIs_yes _ a b _ g.2.1 hc).mono ?_); rintro e w1 ⟨rfl, hb⟩; (have c0 : w1.cell? ⟨w.heap.size, 0, none⟩ = some (.int .i64 p) := cellB hb (by first | assumption | go_simp)); (have c1 : w1.cell? ⟨w.heap.size, 1, none⟩ = some (.int .i64 s) := cellB hb (by first | assumption | go_simp)); (have c2 : w1.cell? ⟨w.heap.size + 1, 0, none⟩ = some (.int .i64 a) := cellB hb (by first | assumption | go_simp)); (have c3 : w1.cell? ⟨w.heap.size + 1, 1, none⟩ = some (.int .i64 b) := cellB hb (by first | assumption | go_simp)); (have hz : w.heap.size + 1 < w1.heap.size := by (have := hb.size; (try simp at this); omega)); (have hB : Below w.heap.size w w1 := by (refine Below.trans ?_ (hb.mono (by first | (simp; done) | omega | (simp; omega))); go_grown)); clear hb)
    | (go_at_call 90; (with_reducible refine (srChords_any p s _ h).mono ?_); rw [← HXS.out]; rintro e w2 ⟨v2, rfl, hp2, hb2⟩; (have f2 : w2.cell? ⟨w.heap.size + 1, 0, none⟩ = some (.int .i64 a) := cellB hb2 c2); (have f3 : w2.cell? ⟨w.heap.size + 1, 1, none⟩ = some (.int .i64 b) := cellB hb2 c3); obtain ⟨a1, cp1, g1, rfl, ha1, hmm, hx1, hy1⟩ := hp2.pairs.view; have B2 := hB.trans (hb2.mono (by omega)); have n2 := B2.size; (have hz2 : w.heap.size + 1 < w2.heap.size := by have := hb2.size; omega); have X := Lib.hid hx1; have Y := Lib.hid hy1; have HA := Lib.hid ha1; clear hp2 hx1 hy1 ha1 hb2))
  go_loopw [6, 22] (fun c i wr => ∃ k m : Nat, k ≤ xs.length ∧ i = .int .i64 k ∧ c = .int .i64 m ∧ m = cntC (a, b) (xs.take k) ∧ Below w.heap.size w wr ∧ Below w2.heap.size w2 wr ∧ wr.cell? ⟨w.heap.size + 1, 0, none⟩ = some (.int .i64 a) ∧ wr.cell? ⟨w.heap.size + 1, 1, none⟩ = some (.int .i64 b)) (fun _ i _ => xs.length - (intOf i).toNat)
  case atStart => exact ⟨0, 0, by omega, rfl, rfl, by simp [cntC], B2, Below.refl _ _, f2, f3⟩
  case round =>
    obtain ⟨k, m, hk, rfl, rfl, hm, hBk, hB2k, p2, p3⟩ := hrel
    have hzk := hBk.size
    have hz2k := hB2k.size
    have hzz : w.heap.size + 1 < wr.heap.size := by omega
    clear c0 c1 c2 c3 f2 f3
    by_cases hlt : k < xs.length
    · obtain rfl := HA.out (by omega)
      have hxy := HO.out k hlt
      have hle := cntC_le (a, b) (xs.take k)
      rw [List.length_take] at hle
      have hm60 : m ≤ 60 := by omega
      have HM := Lib.hid hm
      obtain ⟨x, hx⟩ : ∃ x, x = (xs.getD k (0, 0)).1 := ⟨_, rfl⟩
      obtain ⟨y, hy⟩ : ∃ y, y = (xs.getD k (0, 0)).2 := ⟨_, rfl⟩
      have cx : wr.cell? ⟨g1, k * 2, none⟩ = _ := (hB2k.cell (p := ⟨g1, k * 2, none⟩) (World.block_lt_of_cell? w2 _ (X.out k hlt))).trans (X.out k hlt)
      have cy : wr.cell? ⟨g1, k * 2 + 1, none⟩ = _ := (hB2k.cell (p := ⟨g1, k * 2 + 1, none⟩) (World.block_lt_of_cell? w2 _ (Y.out k hlt))).trans (Y.out k hlt)
      rw [← hx] at cx hxy
      rw [← hy] at cy hxy
      have hcp : crossP (a, b) (xs.getD k (0, 0)) = crossB a b x y := by unfold crossP; rw [hx, hy]
      have hstep := cntC_take (a, b) xs k hlt
      have HXY := Lib.hid hxy
      clear hx hy hxy hm hle
      cases hcr : crossB a b x y with
      | true =>
        have HS2 := Lib.hid (show cntC (a, b) (xs.take (k + 1)) = cntC (a, b) (xs.take k) + 1 by rw [hstep, hcp, hcr]; rfl)
        have HCR := Lib.hid hcr
        clear hstep hcp hcr
        go_wp2_with (first | (go_at_call 100; (with_reducible refine (srCross_any a b x y _ HAB.out HXY.out).mono ?_); rintro e w3 ⟨rfl, hb⟩; rw [HCR.out]; (have d0 : w3.cell? ⟨w.heap.size + 1, 0, none⟩ = some (.int .i64 a) := cellB hb (by first | assumption | go_simp)); (have d1 : w3.cell? ⟨w.heap.size + 1, 1, none⟩ = some (.int .i64 b) := cellB hb (by first | assumption | go_simp)); (have hb' : Below wr.heap.size wr w3 := by (refine Below.trans ?_ (hb.mono (by first | omega | (simp; done) | (simp; omega))); go_grown)); clear hb))
        go_roundw
        case rel => exact ⟨k + 1, m + 1, by omega, by go_num, by go_num, by rw [HS2.out]; have := HM.out; omega, hBk.trans (hb'.mono hzk), hB2k.trans (hb'.mono hz2k), d0, d1⟩
        case measure => simp [intOf]; omega
      | false =>
        have HS2 := Lib.hid (show cntC (a, b) (xs.take (k + 1)) = cntC (a, b) (xs.take k) + 0 by rw [hstep, hcp, hcr]; rfl)
        have HCR := Lib.hid hcr
        clear hstep hcp hcr
        go_wp2_with (first | (go_at_call 100; (with_reducible refine (srCross_any a b x y _ HAB.out HXY.out).mono ?_); rintro e w3 ⟨rfl, hb⟩; rw [HCR.out]; (have d0 : w3.cell? ⟨w.heap.size + 1, 0, none⟩ = some (.int .i64 a) := cellB hb (by first | assumption | go_simp)); (have d1 : w3.cell? ⟨w.heap.size + 1, 1, none⟩ = some (.int .i64 b) := cellB hb (by first | assumption | go_simp)); (have hb' : Below wr.heap.size wr w3 := by (refine Below.trans ?_ (hb.mono (by first | omega | (simp; done) | (simp; omega))); go_grown)); clear hb))
        go_roundw
        case rel => exact ⟨k + 1, m + 0, by omega, by go_num, by go_num, by rw [HS2.out]; have := HM.out; omega, hBk.trans (hb'.mono hzk), hB2k.trans (hb'.mono hz2k), d0, d1⟩
        case measure => simp [intOf]; omega
    · obtain rfl : k = xs.length := by omega
      rw [List.take_length] at hm
      subst hm
      go_wp2
      go_ret2
      exact ⟨rfl, hBk⟩

end Go.Proofs.Ytlkehdjfmmghjab
