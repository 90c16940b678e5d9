/- Pairings by crossings: the law. -/
import Derived.Test.YtnnhjnogebicbabQG
import Derived.Test.YtnnhjnogebicbabQB
import Derived.Test.YtnnhjnogebicbabQD
import Derived.Test.YtnnhjnogebicbabRows
namespace Go.Proofs.Ytnnhjnogebicbab
open Go.RowKit
set_option linter.unusedVariables false

theorem zeroBools (n : Nat) : madeCells #[Value.bool false] n = boolCells (List.replicate n false) := by
  refine Array.ext' ?_
  apply List.ext_getElem?
  intro i
  by_cases h : i < n
  · simp [madeCells, boolCells, h, Nat.mod_one]
  · simp [madeCells, boolCells, h]

theorem info_boolQ : (Try.prog.info? 4).map (fun i => (i.zero, i.size, i.bytes)) = some (some (.bool false), 1, 1) := by kernel_rfl

theorem make_bools (n : Nat) (hn : n ≤ 1000000000) (W : World) :
    (Instr.makeSlice 59 (.int .i64 (n : Int)) (.int .i64 (n : Int))).run Try.prog W = .ok (.slice (some ⟨W.heap.size, 0, none⟩) n n) (W.alloc (.cells (boolCells (List.replicate n false)) 4)) := by
  obtain ⟨i, hi, hz0, hz1, hz2⟩ := info_parts info_boolQ
  have := run_make (P := Try.prog) W 59 4 i (.bool false) Try.underlying59 hi hz0 .i64 .i64 (n : Int) (n : Int) (by omega) (Int.le_refl _) (by rw [hz2]; omega) (by omega)
  rw [this, hz1, ← zeroBools]
  simp [Value.cells]

theorem same_all (p : Nat) (h : p = 4 ∨ p = 6 ∨ p = 8 ∨ p = 10 ∨ p = 12) : sameL p = true := by
  rcases h with rfl | rfl | rfl | rfl | rfl
  · exact same4
  · exact same6
  · exact same8
  · exact same10
  · exact same12

theorem pairings_same (p c : Nat) (h : p = 4 ∨ p = 6 ∨ p = 8 ∨ p = 10 ∨ p = 12) : cdT p (c : Int) p (List.replicate p false) [] = endT p 0 (c : Int) := by
  have h1 := histN_get p c p (List.replicate p false) [] 0 rfl
  have h2 := same_all p h
  unfold sameL at h2
  rw [beq_iff_eq] at h2
  rw [h2] at h1
  rw [endL_get]
  exact h1

set_option maxHeartbeats 400000 in
theorem sCountPairings_yes (p : Nat) (c : Int) (w : World) (h : (4 ≤ p ∧ p ≤ 12) ∧ p % 2 = 0) (hc : 0 ≤ c ∧ c ≤ 100) :
    Calls Try.prog 24 #[.int .i64 p, .int .i64 c] w fun e w' => e = .returned (.tuple #[.int .i64 (cdT p c p (List.replicate p false) [] : Nat), .bool true]) ∧ Below w.heap.size w w' := by
  have hmk := make_bools p (by omega)
  have HO := Lib.hid (fun (gu : Nat) W (hb : BoolsAt W gu (List.replicate p false)) => cd_any p c (by omega) p gu (List.replicate p false) [] (.slice none 0 0) 0 0 W (by simp) (by unfold freeF; exact Nat.le_trans List.countP_le_length (by simp)) (by simp; omega) (by simp) hb (PairsIn.nil _ _ _ _) (Nat.zero_le _) (.inr (Nat.zero_le _)))
  have HB := Lib.hid (show BoolsAt (w.alloc (.cells (boolCells (List.replicate p false)) 4)) w.heap.size (List.replicate p false) from heap_alloc_new w _)
  have p1 : 4 ≤ (p : Int) ∧ (p : Int) ≤ 12 := by omega
  have p2 : ((p : Int) % 2 == 1) = false := by rw [beq_eq_false_iff_ne]; omega
  generalize cdT p c p (List.replicate p false) [] = X at HO ⊢
  generalize boolCells (List.replicate p false) = C at hmk HB
  go_enter Try.func24, Try.ntmps24
  go_wp2_with (first | (go_at_call 33; (with_reducible refine (l1In_yes _ _ _ _ p1).mono ?_); rintro e w1 ⟨rfl, rfl⟩) | (go_at_call 33; (with_reducible refine (l1In_yes _ _ _ _ hc).mono ?_); rintro e w1 ⟨rfl, rfl⟩) | (go_at_call 47; (refine (HO.out _ _ HB.out).mono ?_); rintro e w1 ⟨rfl, hb⟩))
  go_ret2
  exact ⟨rfl, Below.trans (by go_grown) (hb.mono (by simp))⟩

set_option maxHeartbeats 400000 in
theorem sCountPairings_no (p c : Int) (w : World) (h : ¬ ((4 ≤ p ∧ p ≤ 12) ∧ p % 2 = 0 ∧ (0 ≤ c ∧ c ≤ 100))) :
    Calls Try.prog 24 #[.int .i64 p, .int .i64 c] w fun e w' => e = .returned (.tuple #[.int .i64 0, .bool false]) ∧ Below w.heap.size w w' := by
  by_cases h1 : 4 ≤ p ∧ p ≤ 12
  · have p0 : 0 ≤ p := by omega
    by_cases h2 : p % 2 = 0
    · have h3 : ¬ (0 ≤ c ∧ c ≤ 100) := fun g => h ⟨h1, h2, g⟩
      have p2 : (p % 2 == 1) = false := by rw [beq_eq_false_iff_ne]; omega
      clear h
      go_enter Try.func24, Try.ntmps24
      go_wp2_with (first | (go_at_call 33; (with_reducible refine (l1In_yes _ _ _ _ h1).mono ?_); rintro e w1 ⟨rfl, rfl⟩) | (go_at_call 33; (with_reducible refine (l1In_no _ _ _ _ h3).mono ?_); rintro e w1 ⟨rfl, rfl⟩))
      go_ret2
      exact ⟨rfl, Below.refl _ _⟩
    · have p2 : (p % 2 == 1) = true := by rw [beq_iff_eq]; omega
      clear h
      go_enter Try.func24, Try.ntmps24
      go_wp2_with (first | (go_at_call 33; (with_reducible refine (l1In_yes _ _ _ _ h1).mono ?_); rintro e w1 ⟨rfl, rfl⟩))
      go_ret2
      exact ⟨rfl, Below.refl _ _⟩
  · clear h
    go_enter Try.func24, Try.ntmps24
    go_wp2_with (first | (go_at_call 33; (with_reducible refine (l1In_no _ _ _ _ h1).mono ?_); rintro e w1 ⟨rfl, rfl⟩))
    go_ret2
    exact ⟨rfl, Below.refl _ _⟩

theorem walk_CountPairings (p c : Int) (w : World) (_ : (Lit.int .i64 p).wf = true) (_ : (Lit.int .i64 c).wf = true) :
    Calls Try.prog 8 #[.int .i64 p, .int .i64 c] w fun e w' => e = .returned (.bool true) ∧ Below w.heap.size w w' := by
  by_cases h : (4 ≤ p ∧ p ≤ 12) ∧ p % 2 = 0 ∧ (0 ≤ c ∧ c ≤ 100)
  · obtain ⟨p, rfl⟩ := Int.eq_ofNat_of_zero_le (show 0 ≤ p by omega)
    obtain ⟨c, rfl⟩ := Int.eq_ofNat_of_zero_le (show 0 ≤ c by omega)
    have HS := fun W => sCountPairings_yes p c W (by omega) (by omega)
    have HI := fun W => iCountPairings_yes p c W (by omega) (by omega)
    rw [pairings_same p c (by omega)] at HS
    generalize endT p 0 (c : Int) = X at HS HI
    have HS := Lib.hid HS
    have HI := Lib.hid HI
    clear h
    go_enter Try.func8, Try.ntmps8
    go_wp2_with (first | (go_at_call 24; (with_reducible refine (HS.out _).mono ?_); rintro e w1 ⟨rfl, hb1⟩) | (go_at_call 25; (with_reducible refine (HI.out _).mono ?_); rintro e w2 ⟨rfl, rfl⟩))
    go_ret
    exact ⟨by simp, hb1⟩
  · go_enter Try.func8, Try.ntmps8
    go_wp2_with (first | (go_at_call 24; (with_reducible refine (sCountPairings_no _ _ _ h).mono ?_); rintro e w1 ⟨rfl, hb1⟩) | (go_at_call 25; (with_reducible refine (iCountPairings_no _ _ _ h).mono ?_); rintro e w2 ⟨rfl, rfl⟩))
    go_ret
    exact ⟨rfl, hb1⟩

end Go.Proofs.Ytnnhjnogebicbab
