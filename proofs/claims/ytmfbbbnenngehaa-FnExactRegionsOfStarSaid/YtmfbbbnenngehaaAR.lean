/- Regions: those of a star. -/
import Derived.Test.YtmfbbbnenngehaaA4
import Derived.Test.YtmfbbbnenngehaaAP
import Derived.Test.YtmfbbbnenngehaaRows
namespace Go.Proofs.Ytmfbbbnenngehaa
open Go.RowKit
set_option linter.unusedVariables false

theorem starC_lt (p s : Nat) (h : 1 ≤ s ∧ s < p) (k : Nat) (hk : k < (starC p s).length) : ((starC p s).getD k (0, 0)).1 < ((starC p s).getD k (0, 0)).2 := (starC_order p s h k hk).2.1

set_option maxHeartbeats 400000 in
theorem sRegStar_yes (p s : Nat) (w : World) (h : 3 ≤ p ∧ p ≤ 60 ∧ 1 ≤ s ∧ s < p) :
    Calls Try.prog 19 #[.agg #[.int .i64 p, .int .i64 s]] w fun e w' => e = .returned (.tuple #[.int .i64 (1 + ((starC p s).length : Int) + (pairsC (starC p s) : Nat)), .bool true]) ∧ Below w.heap.size w w' := by
  have g : 3 ≤ (p : Int) ∧ (p : Int) ≤ 60 ∧ 1 ≤ (s : Int) ∧ (s : Int) < p := by omega
  obtain ⟨xs, hxs⟩ : ∃ xs, xs = starC p s := ⟨_, rfl⟩
  have hl := starC_length p s
  have ho := starC_lt p s h.2.2
  have hle := pairsC_le (starC p s)
  rw [← hxs] at hl ho hle ⊢
  have hle2 : xs.length * xs.length ≤ 60 * 60 := Nat.mul_le_mul (by omega) (by omega)
  have HO := Lib.hid ho
  have HXS := Lib.hid hxs
  obtain ⟨m, hm⟩ : ∃ m, pairsC xs = m := ⟨_, rfl⟩
  rw [hm] at hle ⊢
  have HM := Lib.hid hm
  have hw3 : IntKind.i64.wrap (1 + (xs.length : Int)) = 1 + (xs.length : Int) := by rw [IntKind.wrap_i64]; omega
  have hw4 : IntKind.i64.wrap (1 + (xs.length : Int) + (m : Int)) = 1 + (xs.length : Int) + (m : Int) := by rw [IntKind.wrap_i64]; omega
  clear ho hxs hm
  go_enter Try.func19, Try.ntmps19
  go_wp2_with (first | (go_at_call 52; (with_reducible refine (srGood_yes _ _ _ g).mono ?_); rintro e w1 ⟨rfl, hb⟩; (have c0 : w1.cell? ⟨w.heap.size, 0, none⟩ = some (.int .i64 p) := cellB hb (by first | assumption | go_simp)); (have c1 : w1.cell? ⟨w.heap.size, 1, none⟩ = some (.int .i64 s) := cellB hb (by first | assumption | go_simp)); (have hz : w.heap.size < w1.heap.size := by (have := hb.size; (try simp at this); omega)); (have hB : Below w.heap.size w w1 := by (refine Below.trans ?_ (hb.mono (by first | (simp; done) | omega | (simp; omega))); go_grown)); clear hb) | (go_at_call 53; (refine (srChords_any p s _ h).mono ?_); rw [← HXS.out]; rintro e w2 ⟨v2, rfl, hp2, hb2⟩; obtain ⟨a1, c1, g1, rfl, _⟩ := hp2.pairs.view; have B2 := hB.trans (hb2.mono (by omega)); have n2 := B2.size) | (go_at_call 54; (refine (srCount_any _ _ _ _ _ hp2 HO.out (by omega)).mono ?_); rw [HM.out]; rintro e w3 ⟨rfl, hb3⟩))
  go_ret2
  exact ⟨rfl, B2.trans (hb3.mono n2)⟩

set_option maxHeartbeats 400000 in
theorem sRegStar_no (p s : Int) (w : World) (h : ¬ (3 ≤ p ∧ p ≤ 60 ∧ 1 ≤ s ∧ s < p)) :
    Calls Try.prog 19 #[.agg #[.int .i64 p, .int .i64 s]] w fun e w' => e = .returned (.tuple #[.int .i64 0, .bool false]) ∧ Below w.heap.size w w' := by
  go_enter Try.func19, Try.ntmps19
  go_wp2_with (first | (go_at_call 52; (with_reducible refine (srGood_no _ _ _ h).mono ?_); rintro e w1 ⟨rfl, hb⟩; obtain ⟨hc, hf⟩ := bcell hb; (have hz : w.heap.size < w1.heap.size := by (have := hb.size; (try simp at this); omega)); (have hB : Below w.heap.size w w1 := by (refine Below.trans ?_ (hb.mono (by first | (simp; done) | omega | (simp; omega))); go_grown))))
  go_ret2
  exact ⟨rfl, hB⟩

set_option maxHeartbeats 400000 in
theorem iRegStar_no (p s : Int) (w : World) (h : ¬ (3 ≤ p ∧ p ≤ 60 ∧ 1 ≤ s ∧ s < p)) :
    Calls Try.prog 21 #[.agg #[.int .i64 p, .int .i64 s]] w fun e w' => e = .returned (.tuple #[.int .i64 0, .bool false]) ∧ Below w.heap.size w w' := by
  go_enter Try.func21, Try.ntmps21
  go_wp2_with (first | (go_at_call 55; (with_reducible refine (iChordsOf_no _ _ _ h).mono ?_); rintro e w2 ⟨v2, rfl, hp2, hb2⟩; simp only [World.size_alloc] at hb2))
  go_ret2
  exact ⟨rfl, Below.trans (by go_grown) (hb2.mono (by omega))⟩

set_option maxHeartbeats 400000 in
theorem iRegStar_yes (p s : Nat) (w : World) (h : 3 ≤ p ∧ p ≤ 60 ∧ 1 ≤ s ∧ s < p) :
    Calls Try.prog 21 #[.agg #[.int .i64 p, .int .i64 s]] w fun e w' => e = .returned (.tuple #[.int .i64 (1 + ((starC p s).length : Int) + (pairsC (starC p s) : Nat)), .bool true]) ∧ Below w.heap.size w w' := by
  obtain ⟨xs, hxs⟩ : ∃ xs, xs = starC p s := ⟨_, rfl⟩
  have hl := starC_length p s
  have ho := starC_lt p s h.2.2
  have hpc := allP_pairs xs
  rw [← hxs] at hl ho ⊢
  have HO := Lib.hid ho
  have HXS := Lib.hid hxs
  rw [← hpc]
  clear ho hxs hpc
  go_enter Try.func21, Try.ntmps21
  go_wp2_with (first | (go_at_call 55; (refine (iChordsOf_yes p s _ h).mono ?_); rw [← HXS.out]; rintro e w2 ⟨v2, rfl, hp2, hb2⟩; simp only [World.size_alloc] at hb2 hp2; obtain ⟨a1, c1, g1, rfl, _⟩ := hp2.pairs.view; (have B2 : Below w.heap.size w w2 := Below.trans (by go_grown) (hb2.mono (by omega))); have n2 := B2.size; (have c0 : w2.cell? ⟨w.heap.size, 0, none⟩ = some (.int .i64 p) := (hb2.cell (p := ⟨w.heap.size, 0, none⟩) (by simp)).trans (by go_simp))) | (go_at_call 50; (with_reducible refine (countRegionsD p _ _ xs _ _ _ hp2 (Nat.le_refl _) HO.out (by omega)).mono ?_); rintro e w3 ⟨rfl, hb3⟩))
  go_ret2
  exact ⟨rfl, B2.trans (hb3.mono n2)⟩

set_option maxHeartbeats 400000 in
theorem walk_RegionsOfStar (p s : Int) (w : World) (_ : (Lit.int .i64 p).wf = true) (_ : (Lit.int .i64 s).wf = true) :
    Calls Try.prog 4 #[.agg #[.int .i64 p, .int .i64 s]] w fun e w' => e = .returned (.bool true) ∧ Below w.heap.size w w' := by
  by_cases h : 3 ≤ p ∧ p ≤ 60 ∧ 1 ≤ s ∧ s < p
  · obtain ⟨p, rfl⟩ := Int.eq_ofNat_of_zero_le (show 0 ≤ p by omega)
    obtain ⟨s, rfl⟩ := Int.eq_ofNat_of_zero_le (show 0 ≤ s by omega)
    have h' : 3 ≤ p ∧ p ≤ 60 ∧ 1 ≤ s ∧ s < p := by omega
    clear h
    go_enter Try.func4, Try.ntmps4
    go_wp2_with (first | (go_at_call 20; (with_reducible refine (toStar_any _ _ _).mono ?_); rintro e w1 ⟨rfl, hb⟩; obtain ⟨hc, hf⟩ := bcell hb; (have hz : w.heap.size < w1.heap.size := by (have := hb.size; (try simp at this); omega)); (have hB : Below w.heap.size w w1 := by (refine Below.trans ?_ (hb.mono (by first | (simp; done) | omega | (simp; omega))); go_grown))) | (go_at_call 19; (with_reducible refine (sRegStar_yes _ _ _ h').mono ?_); rintro e w1 ⟨rfl, hb⟩; obtain ⟨hc, hf⟩ := bcell hb; (have hz : w.heap.size < w1.heap.size := by (have := hb.size; (try simp at this); omega)); (have hB : Below w.heap.size w w1 := by (refine Below.trans ?_ (hb.mono (by first | (simp; done) | omega | (simp; omega))); go_grown))) | (go_at_call 21; (with_reducible refine (iRegStar_yes _ _ _ h').mono ?_); rintro e w1 ⟨rfl, hb⟩; obtain ⟨hc, hf⟩ := bcell hb; (have hz : w.heap.size < w1.heap.size := by (have := hb.size; (try simp at this); omega)); (have hB : Below w.heap.size w w1 := by (refine Below.trans ?_ (hb.mono (by first | (simp; done) | omega | (simp; omega))); go_grown))))
    go_ret
    exact ⟨rfl, hB⟩
  · go_enter Try.func4, Try.ntmps4
    go_wp2_with (first | (go_at_call 20; (with_reducible refine (toStar_any _ _ _).mono ?_); rintro e w1 ⟨rfl, hb⟩; obtain ⟨hc, hf⟩ := bcell hb; (have hz : w.heap.size < w1.heap.size := by (have := hb.size; (try simp at this); omega)); (have hB : Below w.heap.size w w1 := by (refine Below.trans ?_ (hb.mono (by first | (simp; done) | omega | (simp; omega))); go_grown))) | (go_at_call 19; (with_reducible refine (sRegStar_no _ _ _ h).mono ?_); rintro e w1 ⟨rfl, hb⟩; obtain ⟨hc, hf⟩ := bcell hb; (have hz : w.heap.size < w1.heap.size := by (have := hb.size; (try simp at this); omega)); (have hB : Below w.heap.size w w1 := by (refine Below.trans ?_ (hb.mono (by first | (simp; done) | omega | (simp; omega))); go_grown))) | (go_at_call 21; (with_reducible refine (iRegStar_no _ _ _ h).mono ?_); rintro e w1 ⟨rfl, hb⟩; obtain ⟨hc, hf⟩ := bcell hb; (have hz : w.heap.size < w1.heap.size := by (have := hb.size; (try simp at this); omega)); (have hB : Below w.heap.size w w1 := by (refine Below.trans ?_ (hb.mono (by first | (simp; done) | omega | (simp; omega))); go_grown))))
    go_ret
    exact ⟨rfl, hB⟩
end Go.Proofs.Ytmfbbbnenngehaa
