/- Loops by rank: the law of LoopOfRank. -/
import Derived.Test.YtpcebcgmbngababJQ
namespace Go.Proofs.Ytpcebcgmbngabab
open Go.RowKit
set_option linter.unusedVariables false

set_option maxHeartbeats 1000000 in
theorem core_LoopOfRank (k : Int) (r : Int) (x : ByteArray) (b : Bool) (w : World) 
    (hs : ∀ W : World, Calls Try.prog 14 #[.int .i64 k, .int .i64 r] W fun e w' => e = .returned (.tuple #[.string x, .bool b]) ∧ Below W.heap.size W w')
    (hi : ∀ W : World, Calls Try.prog 15 #[.int .i64 k, .int .i64 r] W fun e w' => e = .returned (.tuple #[.string x, .bool b]) ∧ Below W.heap.size W w') :
    Calls Try.prog 4 #[.int .i64 k, .int .i64 r] w fun e w' => e = .returned (.bool true) ∧ Below w.heap.size w w' := by
  have HS := Lib.hid hs
  have HI := Lib.hid hi
  clear hs hi 
  go_enter Try.func4, Try.ntmps4
  go_wp2_with (first | (go_at_call 14; (with_reducible refine (HS.out _).mono ?_); rintro e w1 ⟨rfl, hb1⟩) | (go_at_call 15; (with_reducible refine (HI.out _).mono ?_); rintro e w2 ⟨rfl, hb2⟩))
  go_ret
  exact ⟨rfl, hb1.trans (hb2.mono hb1.size)⟩

set_option maxHeartbeats 400000 in
theorem iLoopOfRank_yes (n r : Nat) (w : World) (h : 0 ≤ (n : Int) ∧ (n : Int) ≤ 8) (hr : r < waysN 0 n) : Calls Try.prog 15 #[.int .i64 n, .int .i64 r] w fun e w' => e = .returned (.tuple #[.string (txL (rankedL n r)), .bool true]) ∧ Below w.heap.size w w' := by
  have HC := Lib.hid (fun W => implCountLoops_yes n W h)
  have HR := Lib.hid (fun W => loopOfRank_any n r W (by omega) hr)
  obtain ⟨c, hc⟩ : ∃ c, waysN 0 n = c := ⟨_, rfl⟩
  rw [hc] at HC hr
  have h1 : ¬ (r : Int) < 0 := by omega
  have h2 : ¬ (c : Int) ≤ (r : Int) := by omega
  clear hc hr h
  go_enter Try.func15, Try.ntmps15
  go_wp2_with (first | (go_at_call 13; (with_reducible refine (HC.out _).mono ?_); rintro e w1 ⟨rfl, hb1⟩) | (go_at_call 52; (with_reducible refine (HR.out _).mono ?_); rintro e w2 ⟨rfl, hb2⟩))
  go_ret2
  exact ⟨rfl, hb1.trans (hb2.mono hb1.size)⟩

set_option maxHeartbeats 400000 in
theorem iLoopOfRank_no1 (n r : Int) (w : World) (h : ¬ (0 ≤ n ∧ n ≤ 8)) : Calls Try.prog 15 #[.int .i64 n, .int .i64 r] w fun e w' => e = .returned (.tuple #[.string ⟨#[]⟩, .bool false]) ∧ Below w.heap.size w w' := by
  go_enter Try.func15, Try.ntmps15
  go_wp2_with (first | (go_at_call 13; (with_reducible refine (implCountLoops_no n _ h).mono ?_); rintro e w1 ⟨rfl, hb1⟩))
  go_ret2
  exact ⟨rfl, hb1⟩

set_option maxHeartbeats 400000 in
theorem iLoopOfRank_no2 (n : Nat) (r : Int) (w : World) (h : 0 ≤ (n : Int) ∧ (n : Int) ≤ 8) (hr : r < 0) : Calls Try.prog 15 #[.int .i64 n, .int .i64 r] w fun e w' => e = .returned (.tuple #[.string ⟨#[]⟩, .bool false]) ∧ Below w.heap.size w w' := by
  go_enter Try.func15, Try.ntmps15
  go_wp2_with (first | (go_at_call 13; (with_reducible refine (implCountLoops_yes n _ h).mono ?_); rintro e w1 ⟨rfl, hb1⟩))
  go_ret2
  exact ⟨rfl, hb1⟩

set_option maxHeartbeats 400000 in
theorem iLoopOfRank_no3 (n : Nat) (r : Int) (w : World) (h : 0 ≤ (n : Int) ∧ (n : Int) ≤ 8) (h1 : ¬ r < 0) (hr : ((waysN 0 n : Nat) : Int) ≤ r) : Calls Try.prog 15 #[.int .i64 n, .int .i64 r] w fun e w' => e = .returned (.tuple #[.string ⟨#[]⟩, .bool false]) ∧ Below w.heap.size w w' := by
  have HC := Lib.hid (fun W => implCountLoops_yes n W h)
  obtain ⟨c, hc⟩ : ∃ c, waysN 0 n = c := ⟨_, rfl⟩
  rw [hc] at HC hr
  clear hc h
  go_enter Try.func15, Try.ntmps15
  go_wp2_with (first | (go_at_call 13; (with_reducible refine (HC.out _).mono ?_); rintro e w1 ⟨rfl, hb1⟩))
  go_ret2
  exact ⟨rfl, hb1⟩

set_option maxHeartbeats 400000 in
theorem sLoopOfRank_yes (n r : Nat) (w : World) (h : 0 ≤ (n : Int) ∧ (n : Int) ≤ 8) (hr : r < waysN 0 n) : Calls Try.prog 14 #[.int .i64 n, .int .i64 r] w fun e w' => e = .returned (.tuple #[.string (txL (rankedL n r)), .bool true]) ∧ Below w.heap.size w w' := by
  have HR := Lib.hid (fun W => loRanked_any n r W (by omega) hr)
  have HC := Lib.hid (fun W => loCount_any n W (by omega))
  rw [waysN_nil] at hr
  have hb := oddP_le n (by omega)
  obtain ⟨c, hc⟩ : ∃ c, oddP n = c := ⟨_, rfl⟩
  rw [hc] at HC hr hb
  have hw : IntKind.i64.wrap ((c : Int) - 1) = (c : Int) - 1 := by rw [IntKind.wrap_i64]; omega
  have h1 : 0 ≤ (r : Int) ∧ (r : Int) ≤ (c : Int) - 1 := by omega
  clear hc hr
  go_enter Try.func14, Try.ntmps14
  go_wp2_with (first | (go_at_call 47; first | (with_reducible refine (l1In_yes _ _ _ _ h).mono ?_; rintro e w1 ⟨rfl, rfl⟩) | (with_reducible refine (l1In_yes _ _ _ _ h1).mono ?_; rintro e w1 ⟨rfl, rfl⟩)) | (go_at_call 48; (with_reducible refine (HC.out _).mono ?_); rintro e w1 ⟨rfl, rfl⟩) | (go_at_call 51; (with_reducible refine (HR.out _).mono ?_); rintro e w2 ⟨rfl, hb2⟩))
  go_ret2
  exact ⟨rfl, hb2⟩

set_option maxHeartbeats 400000 in
theorem sLoopOfRank_no1 (n r : Int) (w : World) (h : ¬ (0 ≤ n ∧ n ≤ 8)) : Calls Try.prog 14 #[.int .i64 n, .int .i64 r] w fun e w' => e = .returned (.tuple #[.string ⟨#[]⟩, .bool false]) ∧ Below w.heap.size w w' := by
  go_enter Try.func14, Try.ntmps14
  go_wp2_with (first | (go_at_call 47; with_reducible refine (l1In_no _ _ _ _ h).mono ?_; rintro e w1 ⟨rfl, rfl⟩))
  go_ret2
  exact ⟨rfl, Below.refl _ _⟩

set_option maxHeartbeats 400000 in
theorem sLoopOfRank_no2 (n : Nat) (r : Int) (w : World) (h : 0 ≤ (n : Int) ∧ (n : Int) ≤ 8) (hr : ¬ (0 ≤ r ∧ r ≤ ((oddP n : Nat) : Int) - 1)) : Calls Try.prog 14 #[.int .i64 n, .int .i64 r] w fun e w' => e = .returned (.tuple #[.string ⟨#[]⟩, .bool false]) ∧ Below w.heap.size w w' := by
  have HC := Lib.hid (fun W => loCount_any n W (by omega))
  have hb := oddP_le n (by omega)
  obtain ⟨c, hc⟩ : ∃ c, oddP n = c := ⟨_, rfl⟩
  rw [hc] at HC hr hb
  have hw : IntKind.i64.wrap ((c : Int) - 1) = (c : Int) - 1 := by rw [IntKind.wrap_i64]; omega
  clear hc
  go_enter Try.func14, Try.ntmps14
  go_wp2_with (first | (go_at_call 47; first | (with_reducible refine (l1In_yes _ _ _ _ h).mono ?_; rintro e w1 ⟨rfl, rfl⟩) | (with_reducible refine (l1In_no _ _ _ _ hr).mono ?_; rintro e w1 ⟨rfl, rfl⟩)) | (go_at_call 48; (with_reducible refine (HC.out _).mono ?_); rintro e w1 ⟨rfl, rfl⟩))
  go_ret2
  exact ⟨rfl, Below.refl _ _⟩

theorem main_LoopOfRank (k r : Int) (w : World) : Calls Try.prog 4 #[.int .i64 k, .int .i64 r] w fun e w' => e = .returned (.bool true) ∧ Below w.heap.size w w' := by
  by_cases h : 0 ≤ k ∧ k ≤ 8
  · obtain ⟨n, rfl⟩ := Int.eq_ofNat_of_zero_le h.1
    have hn := waysN_nil n
    by_cases h1 : r < 0
    · exact core_LoopOfRank n r _ _ w (fun W => sLoopOfRank_no2 n r W h (by omega)) (fun W => iLoopOfRank_no2 n r W h h1)
    · by_cases h2 : ((waysN 0 n : Nat) : Int) ≤ r
      · exact core_LoopOfRank n r _ _ w (fun W => sLoopOfRank_no2 n r W h (by rw [hn] at h2; omega)) (fun W => iLoopOfRank_no3 n r W h h1 h2)
      · obtain ⟨q, rfl⟩ := Int.eq_ofNat_of_zero_le (show 0 ≤ r by omega)
        exact core_LoopOfRank n q _ _ w (fun W => sLoopOfRank_yes n q W h (by omega)) (fun W => iLoopOfRank_yes n q W h (by omega))
  · exact core_LoopOfRank k r _ _ w (fun W => sLoopOfRank_no1 k r W h) (fun W => iLoopOfRank_no1 k r W h)

theorem walk_LoopOfRank (k : Int) (r : Int) (w : World) (wf0 : (Lit.int .i64 k).wf = true) (wf1 : (Lit.int .i64 r).wf = true) :
    Calls Try.prog 4 #[.int .i64 k, .int .i64 r] w fun e w' => e = .returned (.bool true) ∧ Below w.heap.size w w' := by
  exact main_LoopOfRank k r w 

end Go.Proofs.Ytpcebcgmbngabab
