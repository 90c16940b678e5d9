/- The plane pairing with a rank: the model; the law. -/
import Derived.Test.YtenkokkhdcjcaabR4
namespace Go.Proofs.Ytenkokkhdcjcaab
open Go.RowKit
set_option linter.unusedVariables false

set_option maxHeartbeats 400000 in
theorem cdOfRank_zero (a r : Nat) (wv : Value) (P B T : Nat) (w : World) (hI : IntsIn 3 w B T wv (waysL P (P / 2 + 1) 0)) :
    Calls Try.prog 57 #[.int .i64 a, .int .i64 0, .int .i64 r, wv] w fun e w' => ∃ v, e = .returned v ∧ PairsIn 62 w' w.heap.size w'.heap.size v [] ∧ Below w.heap.size w w' := by
  obtain ⟨a0, cap, g, rfl, _⟩ := hI.1.view
  clear hI
  go_enter Try.func57, Try.ntmps57
  go_wp2
  go_ret
  exact ⟨_, rfl, PairsIn.nil _ _ _ _, by go_grown⟩

theorem cdOfRank_any (f : Nat) : ∀ (a n r P : Nat) (wv : Value) (B T : Nat) (w : World), 2 * n ≤ P → P ≤ 30 → IntsIn 3 w B T wv (waysL P (P / 2 + 1) 0) → T ≤ w.heap.size → n ≤ f → a + 2 * n ≤ 60 → r < cat n →
    Calls Try.prog 57 #[.int .i64 a, .int .i64 (2 * n : Nat), .int .i64 r, wv] w fun e w' => ∃ v, e = .returned v ∧ PairsIn 62 w' w.heap.size w'.heap.size v (ofRank f a n r) ∧ Below w.heap.size w w' := by
  induction f with
  | zero =>
    intro a n r P wv B T w _ _ hI _ hn _ _
    obtain rfl := Nat.le_zero.1 hn
    exact cdOfRank_zero a r wv P B T w hI
  | succ f ih =>
    intro a n r P wv B T w hP hP30 hI hT hn ha hr
    by_cases h0 : n = 0
    · subst h0
      rw [ofRank_zero]
      exact cdOfRank_zero a r wv P B T w hI
    · obtain ⟨u, hu, h1, h2⟩ := und_ex n r (by omega) (by omega) hr
      exact cdOfRank_step f a n r u P wv B T w hP hP30 hI hT (by omega) (by omega) hn ha h1 h2 hu (fun a' n' r' W hI' hT' h3 h4 h5 => ih a' n' r' P wv B T W (by omega) hP30 hI' hT' (by omega) h4 h5)

set_option maxHeartbeats 800000 in
theorem sOfRank_yes (p r : Nat) (w : World) (hp : (4 ≤ p ∧ p ≤ 30) ∧ p % 2 = 0) (hr : r < cat (p / 2)) :
    Calls Try.prog 22 #[.int .i64 p, .int .i64 r] w (Gives (PairsIn 62) w (ofRank 15 0 (p / 2) r) true) := by
  have hg := waysL_get p (p / 2 + 1) 0 p (Nat.le_refl _)
  rw [if_pos hp.2, if_pos (by omega)] at hg
  have HG := Lib.hid hg
  have hpp : (4 ≤ (p : Int) ∧ (p : Int) ≤ 30) ∧ (p : Int) % 2 = 0 := by omega
  have hc := cat_le (p / 2) (by omega)
  have C := fun (wv : Value) (B T : Nat) (W : World) (hI : IntsIn 3 W B T wv (waysL p (p / 2 + 1) 0)) (hT : T ≤ W.heap.size) => cdOfRank_any 15 0 (p / 2) r p wv B T W (by omega) (by omega) hI hT (by omega) (by omega) hr
  rw [show 2 * (p / 2) = p by omega] at C
  have HC : Hid (∀ (wv : Value) (B T : Nat) (W : World), IntsIn 3 W B T wv (waysL p (p / 2 + 1) 0) → T ≤ W.heap.size → Calls Try.prog 57 #[.int .i64 0, .int .i64 (p : Int), .int .i64 (r : Int), wv] W _) := Lib.hid C
  obtain ⟨c, hcc⟩ : ∃ c, c = cat (p / 2) := ⟨_, rfl⟩
  rw [← hcc] at HG hc hr
  have hin : 0 ≤ (r : Int) ∧ (r : Int) ≤ (c : Int) - 1 := by omega
  clear hg C hcc
  go_enter Try.func22, Try.ntmps22
  go_wp2_with (first
    | (go_at_call 44; (with_reducible refine (cdPlanePoints_yes _ _ hpp).mono ?_); rintro e w1 ⟨rfl, rfl⟩)
    | (go_at_call 45; (with_reducible refine (cdPlane_any p _ hp).mono ?_); rintro e w1 ⟨g, cap, rfl, hi, hb⟩; have cc := hi.1.cellAt p (by rw [waysL_length]; omega); rw [HG.out] at cc; have HI := Lib.hid hi; have HB := Lib.hid hb; clear hi hb)
    | (go_at_call 48; (with_reducible refine (l1In_yes _ _ _ _ hin).mono ?_); rintro e w1 ⟨rfl, rfl⟩)
    | (go_at_call 57; (with_reducible refine (HC.out _ _ _ _ HI.out (Nat.le_refl _)).mono ?_); rintro e w2 ⟨v, rfl, hp2, hb2⟩; have HP2 := Lib.hid hp2; have HB2 := Lib.hid hb2; clear hp2 hb2))
  go_ret2
  exact ⟨_, rfl, HP2.out.wider HB.out.size (Nat.le_refl _), HB.out.trans (HB2.out.mono HB.out.size)⟩

set_option maxHeartbeats 400000 in
theorem sOfRank_no1 (p r : Int) (w : World) (hp : ¬ ((4 ≤ p ∧ p ≤ 30) ∧ p % 2 = 0)) :
    Calls Try.prog 22 #[.int .i64 p, .int .i64 r] w (Gives (PairsIn 62) w [] false) := by
  go_enter Try.func22, Try.ntmps22
  go_wp2_with (first | (go_at_call 44; (with_reducible refine (cdPlanePoints_no _ _ hp).mono ?_); rintro e w1 ⟨rfl, rfl⟩))
  go_ret2
  exact ⟨_, rfl, PairsIn.nil _ _ _ _, by go_grown⟩

set_option maxHeartbeats 400000 in
theorem sOfRank_no2 (p : Nat) (r : Int) (w : World) (hp : (4 ≤ p ∧ p ≤ 30) ∧ p % 2 = 0) (hr : ¬ (0 ≤ r ∧ r < (cat (p / 2) : Nat))) :
    Calls Try.prog 22 #[.int .i64 p, .int .i64 r] w (Gives (PairsIn 62) w [] false) := by
  have hg := waysL_get p (p / 2 + 1) 0 p (Nat.le_refl _)
  rw [if_pos hp.2, if_pos (by omega)] at hg
  have HG := Lib.hid hg
  have hpp : (4 ≤ (p : Int) ∧ (p : Int) ≤ 30) ∧ (p : Int) % 2 = 0 := by omega
  have hc := cat_le (p / 2) (by omega)
  obtain ⟨c, hcc⟩ : ∃ c, c = cat (p / 2) := ⟨_, rfl⟩
  rw [← hcc] at HG hc hr
  have hin : ¬ (0 ≤ r ∧ r ≤ (c : Int) - 1) := by omega
  have HIN := Lib.hid hin
  clear hg hcc hin hr
  go_enter Try.func22, Try.ntmps22
  go_wp2_with (first
    | (go_at_call 44; (with_reducible refine (cdPlanePoints_yes _ _ hpp).mono ?_); rintro e w1 ⟨rfl, rfl⟩)
    | (go_at_call 45; (with_reducible refine (cdPlane_any p _ hp).mono ?_); rintro e w1 ⟨g, cap, rfl, hi, hb⟩; have cc := hi.1.cellAt p (by rw [waysL_length]; omega); rw [HG.out] at cc; have HB := Lib.hid hb; clear hi hb)
    | (go_at_call 48; (with_reducible refine (l1In_no _ _ _ _ HIN.out).mono ?_); rintro e w1 ⟨rfl, rfl⟩))
  go_ret2
  exact ⟨_, rfl, PairsIn.nil _ _ _ _, HB.out⟩

set_option maxHeartbeats 400000 in
theorem iOfRank_no1 (p r : Int) (w : World) (hp : ¬ ((4 ≤ p ∧ p ≤ 30) ∧ p % 2 = 0)) :
    Calls Try.prog 23 #[.int .i64 p, .int .i64 r] w (Gives (PairsIn 62) w [] false) := by
  go_enter Try.func23, Try.ntmps23
  go_wp2_with (first | (go_at_call 14; (with_reducible refine (iCountPlane_no p _ hp).mono ?_); rintro e w1 ⟨rfl, hb1⟩))
  go_ret2
  exact ⟨_, rfl, PairsIn.nil _ _ _ _, hb1⟩

set_option maxHeartbeats 400000 in
theorem iOfRank_no2 (p : Nat) (r : Int) (w : World) (hp : (4 ≤ p ∧ p ≤ 30) ∧ p % 2 = 0) (hr : ¬ (0 ≤ r ∧ r < (cat (p / 2) : Nat))) :
    Calls Try.prog 23 #[.int .i64 p, .int .i64 r] w (Gives (PairsIn 62) w [] false) := by
  have HC := Lib.hid (iCountPlane_yes p)
  obtain ⟨c, hcc⟩ : ∃ c, c = cat (p / 2) := ⟨_, rfl⟩
  rw [← hcc] at HC hr
  clear hcc
  by_cases h0 : r < 0
  · clear hr
    go_enter Try.func23, Try.ntmps23
    go_wp2_with (first | (go_at_call 14; (with_reducible refine (HC.out _ hp).mono ?_); rintro e w1 ⟨rfl, hb1⟩))
    go_ret2
    exact ⟨_, rfl, PairsIn.nil _ _ _ _, hb1⟩
  · have h1 : (c : Int) ≤ r := by omega
    clear hr
    go_enter Try.func23, Try.ntmps23
    go_wp2_with (first | (go_at_call 14; (with_reducible refine (HC.out _ hp).mono ?_); rintro e w1 ⟨rfl, hb1⟩))
    go_ret2
    exact ⟨_, rfl, PairsIn.nil _ _ _ _, hb1⟩

set_option maxHeartbeats 400000 in
theorem core_PlanePairingOfRank (p r : Int) (x : List (Int × Int)) (b : Bool) (w : World) (hx : x.length ≤ 1000000)
    (hs : ∀ W, Calls Try.prog 22 #[.int .i64 p, .int .i64 r] W (Gives (PairsIn 62) W x b)) (hi : ∀ W, Calls Try.prog 23 #[.int .i64 p, .int .i64 r] W (Gives (PairsIn 62) W x b)) :
    Calls Try.prog 6 #[.int .i64 p, .int .i64 r] w fun e w' => e = .returned (.bool true) ∧ Below w.heap.size w w' := by
  have HS := Lib.hid hs
  have HI := Lib.hid hi
  clear hs hi
  go_enter Try.func6, Try.ntmps6
  go_wp2_with fail
  refine (HS.out _).mono ?_
  rintro e w1 ⟨vw, rfl, kw_1, hb1⟩
  have n1 : w.heap.size ≤ w1.heap.size := by have := hb1.size; (try simp at this); omega
  have B1 : Below w.heap.size w w1 := Below.trans (by go_grown) (hb1.mono (by first | (simp; done) | (simp; omega)))
  go_wp2_with fail
  refine (HI.out _).mono ?_
  rintro e w2 ⟨vg, rfl, kg_2, hb2⟩
  have n2 := hb2.size
  have B2 := B1.trans (hb2.mono (by omega))
  have kw_2 := kw_1.keep (belowSame hb2 (by omega))
  go_wp2_with fail
  refine (eqChordS_in _ _ _ _ _ _ _ _ _ kg_2 kw_2).mono ?_
  rintro e w3 ⟨rfl, hb3⟩
  have n3 := hb3.size
  have B3 := B2.trans (hb3.mono (by omega))
  have kw_3 := kw_2.keep (belowSame hb3 (by omega))
  have kg_3 := kg_2.keep (belowSame hb3 (by omega))
  go_wp2_with fail
  refine (markChordS_in _ _ 1 _ _ _ _ kg_3 (by omega) (by omega) (by omega)).mono ?_
  rintro e w4 ⟨rfl, mg_4, o4⟩
  have n4 := o4.size
  have B4 := B3.trans (o4.below (C := w.heap.size) (by omega) (by omega))
  have kw_4 := kw_3.keep (o4.same_in (by omega) (by omega))
  have kg_4 := mg_4
  go_wp2_with fail
  refine (heldChordS_in _ 1 _ _ _ _ _ kg_4 (by omega) (by omega) (by omega)).mono ?_
  rintro e w5 ⟨rfl, hb5⟩
  have n5 := hb5.size
  have B5 := B4.trans (hb5.mono (by omega))
  have kw_5 := kw_4.keep (belowSame hb5 (by omega))
  have kg_5 := kg_4.keep (belowSame hb5 (by omega))
  go_wp2_with fail
  refine (HI.out _).mono ?_
  rintro e w6 ⟨vh, rfl, kh_6, hb6⟩
  have n6 := hb6.size
  have B6 := B5.trans (hb6.mono (by omega))
  have kw_6 := kw_5.keep (belowSame hb6 (by omega))
  have kg_6 := kg_5.keep (belowSame hb6 (by omega))
  go_wp2_with fail
  refine (eqChordS_in _ _ _ _ _ _ _ _ _ kh_6 kw_6).mono ?_
  rintro e w7 ⟨rfl, hb7⟩
  have n7 := hb7.size
  have B7 := B6.trans (hb7.mono (by omega))
  have kw_7 := kw_6.keep (belowSame hb7 (by omega))
  have kg_7 := kg_6.keep (belowSame hb7 (by omega))
  have kh_7 := kh_6.keep (belowSame hb7 (by omega))
  go_wp2_with fail
  refine (heldChordS_in _ 1 _ _ _ _ _ kg_7 (by omega) (by omega) (by omega)).mono ?_
  rintro e w8 ⟨rfl, hb8⟩
  have n8 := hb8.size
  have B8 := B7.trans (hb8.mono (by omega))
  have kw_8 := kw_7.keep (belowSame hb8 (by omega))
  have kg_8 := kg_7.keep (belowSame hb8 (by omega))
  have kh_8 := kh_7.keep (belowSame hb8 (by omega))
  go_wp2_with fail
  go_ret
  exact ⟨rfl, B8⟩

theorem walk_PlanePairingOfRank (p r : Int) (w : World) (_ : (Lit.int .i64 p).wf = true) (_ : (Lit.int .i64 r).wf = true) :
    Calls Try.prog 6 #[.int .i64 p, .int .i64 r] w fun e w' => e = .returned (.bool true) ∧ Below w.heap.size w w' := by
  by_cases hp : (4 ≤ p ∧ p ≤ 30) ∧ p % 2 = 0
  · obtain ⟨n, rfl⟩ := Int.eq_ofNat_of_zero_le (show 0 ≤ p by omega)
    have h : (4 ≤ n ∧ n ≤ 30) ∧ n % 2 = 0 := by omega
    by_cases hr : 0 ≤ r ∧ r < (cat (n / 2) : Nat)
    · obtain ⟨k, rfl⟩ := Int.eq_ofNat_of_zero_le hr.1
      have hk : k < cat (n / 2) := by omega
      exact core_PlanePairingOfRank _ _ _ _ w (by rw [ofRank_length 15 0 (n / 2) k (by omega) (by omega) hk]; omega) (fun W => sOfRank_yes n k W h hk) (fun W => iOfRank_yes n k W h hk)
    · exact core_PlanePairingOfRank _ _ _ _ w (by simp) (fun W => sOfRank_no2 n r W h hr) (fun W => iOfRank_no2 n r W h hr)
  · exact core_PlanePairingOfRank _ _ _ _ w (by simp) (fun W => sOfRank_no1 p r W hp) (fun W => iOfRank_no1 p r W hp)

end Go.Proofs.Ytenkokkhdcjcaab
