/- The chords of a turned star, by the program. -/
import Derived.Test.YtlkehdjfmmghjabZ5
namespace Go.Proofs.Ytlkehdjfmmghjab
open Go.RowKit Go.Maps
set_option linter.unusedVariables false

set_option maxHeartbeats 400000 in
theorem chordBetween_any (a b : Int) (w : World) :
    Calls Try.prog 104 #[.int .i64 a, .int .i64 b] w fun e w' => e = .returned (.agg #[.int .i64 (min a b), .int .i64 (max a b)]) ∧ Below w.heap.size w w' := by
  rcases Int.lt_trichotomy a b with h | h | h
  · have h1 : min a b = a := by omega
    have h2 : max a b = b := by omega
    have h3 : ¬ b < a := by omega
    go_enter Try.func104, Try.ntmps104
    go_wp2
    go_returns
    exact ⟨rfl, by go_grown⟩
  · subst h
    have h1 : min a a = a := by omega
    have h2 : max a a = a := by omega
    go_enter Try.func104, Try.ntmps104
    go_wp2
    go_returns
    exact ⟨by rw [h1, h2], by go_grown⟩
  · have h1 : min a b = b := by omega
    have h2 : max a b = a := by omega
    have h3 : ¬ a < b := by omega
    go_enter Try.func104, Try.ntmps104
    go_wp2
    go_returns
    exact ⟨rfl, by go_grown⟩

/-- The chords of the first so many lines of a turned star. -/
def linesT (p s t k : Nat) : List (Int × Int) := (List.range k).map fun q => lineC p s ((q + t) % p)

theorem linesT_succ (p s t k : Nat) : linesT p s t (k + 1) = linesT p s t k ++ [lineC p s ((k + t) % p)] := by
  simp [linesT, List.range_succ]

theorem mem_linesT (p s t k : Nat) (x : Int × Int) : x ∈ linesT p s t k ↔ ∃ q, q < k ∧ lineC p s ((q + t) % p) = x := by
  simp [linesT]

set_option maxHeartbeats 1000000 in
set_option maxRecDepth 100000 in
theorem iTurnedStar_yes (p s t : Nat) (w : World) (h : 3 ≤ p ∧ p ≤ 60 ∧ 1 ≤ s ∧ s < p) (ht : t < p) :
    Calls Try.prog 49 #[.agg #[.int .i64 p, .int .i64 s], .int .i64 t] w (Gives (PairsIn 61) w (starC p s) true) := by
  have g : 3 ≤ (p : Int) ∧ (p : Int) ≤ 60 ∧ 1 ≤ (s : Int) ∧ (s : Int) < p := by omega
  have hmm := @run_makeMap Try.prog
  obtain ⟨h1, h2, h3, h4⟩ := h
  go_enter Try.func49, Try.ntmps49
  go_wp2_with (first | (go_at_call 28; (with_reducible refine (isStar_yes _ _ _ g).mono ?_); rintro e w1 ⟨rfl, hb⟩; (have c0 : w1.cell? ⟨w.heap.size, 0, none⟩ = some (.int .i64 p) := cellB hb (by first | assumption | go_simp)); (have c1 : w1.cell? ⟨w.heap.size, 1, none⟩ = some (.int .i64 s) := cellB hb (by first | assumption | go_simp)); (have hz : w.heap.size < w1.heap.size := by (have := hb.size; (try simp at this); omega)); (have hB : Below w.heap.size w w1 := by (refine Below.trans ?_ (hb.mono (by first | (simp; done) | omega | (simp; omega))); go_grown)); clear hb) | (go_at_call 86; (with_reducible refine (isPoint_yes _ _ _ (by omega)).mono ?_); rintro e w1 ⟨rfl, rfl⟩))
  have HM := Lib.hid (SetC.made w1)
  clear hmm
  go_loopw [22] (fun i wr => ∃ k : Nat, k ≤ p ∧ i = .int .i64 k ∧ SetC wr w1.heap.size k (linesT p s t k) ∧ Below w.heap.size w wr ∧ wr.cell? ⟨w.heap.size, 0, none⟩ = some (.int .i64 p) ∧ wr.cell? ⟨w.heap.size, 1, none⟩ = some (.int .i64 s)) (fun i _ => p - (intOf i).toNat)
  case atStart => exact ⟨0, by omega, rfl, HM.out, hB.alloc (by omega) _, by go_simp, by go_simp⟩
  case round =>
    obtain ⟨k, hk, rfl, hS, hBk, p0, p1⟩ := hrel
    have hzk := hBk.size
    have hbl := hS.lt
    clear HM c0 c1 hB
    by_cases hlt : k < p
    · obtain ⟨r, hr⟩ : ∃ r, r = (k + t) % p := ⟨_, rfl⟩
      have hrp : r < p := by rw [hr]; exact Nat.mod_lt _ (by omega)
      obtain ⟨q, hq⟩ : ∃ q, q = (r + s) % p := ⟨_, rfl⟩
      have hqp : q < p := by rw [hq]; exact Nat.mod_lt _ (by omega)
      have HN := Lib.hid (show linesT p s t (k + 1) = linesT p s t k ++ [(min (r : Int) (q : Int), max (r : Int) (q : Int))] by rw [linesT_succ, ← hr, hq]; rfl)
      have hs1 : 0 ≤ (k : Int) + (t : Int) := by omega
      have hs2 : 0 ≤ (r : Int) + (s : Int) := by omega
      have hm1 : ((k : Int) + (t : Int)) % (p : Int) = (r : Int) := by rw [hr]; norm_cast
      have hm2 : ((r : Int) + (s : Int)) % (p : Int) = (q : Int) := by rw [hq]; norm_cast
      have hpz : ¬ p = 0 := by omega
      have hpn : ¬ (p : Int) = 0 := by omega
      have ht1 : Int.tmod ((k : Int) + (t : Int)) (p : Int) = (r : Int) := by rw [Int.tmod_eq_emod_of_nonneg hs1]; exact hm1
      have ht2 : Int.tmod ((r : Int) + (s : Int)) (p : Int) = (q : Int) := by rw [Int.tmod_eq_emod_of_nonneg hs2]; exact hm2
      obtain ⟨kl, hkl⟩ := isKey_ex (min (r : Int) (q : Int), max (r : Int) (q : Int)) (WalkArith.wf_i64 (by omega)) (WalkArith.wf_i64 (by omega))
      have HKL := Lib.hid hkl
      obtain ⟨D, hown, hk1, hk2⟩ := hS
      have HO := Lib.hid hown
      have K1 := Lib.hid hk1
      have K2 := Lib.hid hk2
      clear hr hq hkl hown hk1 hk2
      go_wp2_with (first
        | (go_at_call 104; (with_reducible refine (chordBetween_any _ _ _).mono ?_); rintro e w2 ⟨rfl, hb2⟩; (have d0 := cellB hb2 p0); (have d1 := cellB hb2 p1); (have B2 := hBk.trans (hb2.mono hzk)); (have HO2 := Lib.hid (HO.out.kept (Below.by hb2) (by simp))); (have n2 := hb2.size))
        | (at_mapUpdate; refine wpList_mapUpdate_own _ rfl _ _ _ 124 rfl 61 4 keyC Try.underlying124 _ w1.heap.size k _ rfl HO2.out (by unfold maxLen; omega) _ _ kl rfl rfl HKL.out _ [] (elemB_mk true) ?_; intro w3 hown3 hg3; have HO3 := Lib.hid hown3; have HG3 := Lib.hid hg3; clear hown3 hg3; go_frame))
      have hS3 := SetC.put HO.out K1.out K2.out HKL.out HO3.out
      rw [← HN.out] at hS3
      have f0 : w3.cell? ⟨w.heap.size, 0, none⟩ = some (.int .i64 p) := (World.cell?_of_block (HG3.out.block w.heap.size (by omega) (by simp; omega))).trans d0
      have f1 : w3.cell? ⟨w.heap.size, 1, none⟩ = some (.int .i64 s) := (World.cell?_of_block (HG3.out.block w.heap.size (by omega) (by simp; omega))).trans d1
      have B3 := B2.grown HG3.out (by omega) (fun j hj => by cases hj; omega)
      go_roundw
      case rel => exact ⟨k + 1, by omega, by go_num, hS3, B3, f0, f1⟩
      case measure => simp [intOf]; omega
    · obtain rfl : k = p := by omega
      have HS := Lib.hid hS
      clear hS
      go_wp2_with (first
        | (go_at_call 105; refine (emptyInOrder_any w1.heap.size k _ _ HS.out (by omega)).mono ?_; rintro e w2 ⟨v2, ys, rfl, hp2, hso, hme, hb2⟩; have HP2 := Lib.hid hp2; have HSO := Lib.hid hso; have HME := Lib.hid hme; clear hp2 hso hme))
      have hys := starC_unique k s t (by omega) ht ys HSO.out (fun x => (HME.out x).trans (mem_linesT k s t k x))
      go_ret2
      exact givePairs true (hys ▸ HP2.out) hzk (hBk.trans (hb2.mono (by omega)))

set_option maxHeartbeats 400000 in
theorem iTurnedStar_no (p s t : Int) (w : World) (h : ¬ ((3 ≤ p ∧ p ≤ 60 ∧ 1 ≤ s ∧ s < p) ∧ (0 ≤ t ∧ t < p))) :
    Calls Try.prog 49 #[.agg #[.int .i64 p, .int .i64 s], .int .i64 t] w (Gives (PairsIn 61) w [] false) := by
  by_cases hg : 3 ≤ p ∧ p ≤ 60 ∧ 1 ≤ s ∧ s < p
  · have ht : ¬ (0 ≤ t ∧ t < p) := fun ht => h ⟨hg, ht⟩
    go_enter Try.func49, Try.ntmps49
    go_wp2_with (first | (go_at_call 28; (with_reducible refine (isStar_yes _ _ _ hg).mono ?_); rintro e w1 ⟨rfl, hb⟩; (have c0 : w1.cell? ⟨w.heap.size, 0, none⟩ = some (.int .i64 p) := cellB hb (by first | assumption | go_simp)); (have c1 : w1.cell? ⟨w.heap.size, 1, none⟩ = some (.int .i64 s) := cellB hb (by first | assumption | go_simp)); (have hz : w.heap.size < w1.heap.size := by (have := hb.size; (try simp at this); omega)); (have hB : Below w.heap.size w w1 := by (refine Below.trans ?_ (hb.mono (by first | (simp; done) | omega | (simp; omega))); go_grown)); clear hb) | (go_at_call 86; (with_reducible refine (isPoint_no _ _ _ ht).mono ?_); rintro e w1 ⟨rfl, rfl⟩))
    go_ret2
    exact ⟨_, rfl, PairsIn.nil _ _ _ _, hB⟩
  · go_enter Try.func49, Try.ntmps49
    go_wp2_with (first | (go_at_call 28; (with_reducible refine (isStar_no _ _ _ hg).mono ?_); rintro e w1 ⟨rfl, hb⟩; (have c0 : w1.cell? ⟨w.heap.size, 0, none⟩ = some (.int .i64 p) := cellB hb (by first | assumption | go_simp)); (have c1 : w1.cell? ⟨w.heap.size, 1, none⟩ = some (.int .i64 s) := cellB hb (by first | assumption | go_simp)); (have hz : w.heap.size < w1.heap.size := by (have := hb.size; (try simp at this); omega)); (have hB : Below w.heap.size w w1 := by (refine Below.trans ?_ (hb.mono (by first | (simp; done) | omega | (simp; omega))); go_grown)); clear hb))
    go_ret2
    exact ⟨_, rfl, PairsIn.nil _ _ _ _, hB⟩

end Go.Proofs.Ytlkehdjfmmghjab
