/- The laws TurnedStar and ChordsOf. -/
import Derived.Test.YtenkokkhdcjcaaaZ6
import Derived.Test.YtenkokkhdcjcaaaV9
namespace Go.Proofs.Ytenkokkhdcjcaaa
open Go.RowKit
set_option linter.unusedVariables false

set_option maxHeartbeats 400000 in
theorem iChordsOf_yes (p s : Nat) (w : World) (h : 3 ≤ p ∧ p ≤ 60 ∧ 1 ≤ s ∧ s < p) :
    Calls Try.prog 45 #[.agg #[.int .i64 p, .int .i64 s]] w (Gives (PairsIn 50) w (starC p s) true) := by
  go_enter Try.func45, Try.ntmps45
  go_wp2_with (first | (go_at_call 47; refine (iTurnedStar_yes p s 0 _ h (by omega)).mono ?_; rintro e w2 ⟨v2, rfl, hp2, hb2⟩; simp only [World.size_alloc] at hb2 hp2))
  go_ret2
  exact givePairs true hp2 (by omega) (Below.trans (by go_grown) (hb2.mono (by omega)))

set_option maxHeartbeats 400000 in
theorem iChordsOf_no (p s : Int) (w : World) (h : ¬ (3 ≤ p ∧ p ≤ 60 ∧ 1 ≤ s ∧ s < p)) :
    Calls Try.prog 45 #[.agg #[.int .i64 p, .int .i64 s]] w (Gives (PairsIn 50) w [] false) := by
  go_enter Try.func45, Try.ntmps45
  go_wp2_with (first | (go_at_call 47; refine (iTurnedStar_no p s 0 _ (fun g => h g.1)).mono ?_; rintro e w2 ⟨v2, rfl, hp2, hb2⟩; simp only [World.size_alloc] at hb2 hp2))
  go_ret2
  exact ⟨_, rfl, hp2.wider (by omega) (Nat.le_refl _), Below.trans (by go_grown) (hb2.mono (by omega))⟩

set_option maxHeartbeats 400000 in
theorem core_TurnedStar (p s k : Int) (x : List (Int × Int)) (b : Bool) (w : World) (hx : x.length ≤ 1000000)
    (hs : ∀ W, Calls Try.prog 46 #[.agg #[.int .i64 p, .int .i64 s], .int .i64 k] W (Gives (PairsIn 50) W x b)) (hi : ∀ W, Calls Try.prog 47 #[.agg #[.int .i64 p, .int .i64 s], .int .i64 k] W (Gives (PairsIn 50) W x b)) :
    Calls Try.prog 12 #[.agg #[.int .i64 p, .int .i64 s], .int .i64 k] w fun e w' => e = .returned (.bool true) ∧ Below w.heap.size w w' := by
  have HS := Lib.hid hs
  have HI := Lib.hid hi
  clear hs hi
  have p0_0' : (w.alloc (.cells #[.int .i64 p, .int .i64 s] 54)).cell? ⟨w.heap.size, 0, none⟩ = some (.int .i64 p) := by go_simp
  have p0_0 := Lib.hid p0_0'
  clear p0_0'
  have q0_0' : (w.alloc (.cells #[.int .i64 p, .int .i64 s] 54)).cell? ⟨w.heap.size, 1, none⟩ = some (.int .i64 s) := by go_simp
  have q0_0 := Lib.hid q0_0'
  clear q0_0'
  go_enter Try.func12, Try.ntmps12
  go_wp2_with fail
  refine (toStar_any _ _ _).mono ?_
  rintro e w1 ⟨rfl, hb1⟩
  have n1 : w.heap.size + 1 ≤ w1.heap.size := by have := hb1.size; simp at this; omega
  have B1 : Below w.heap.size w w1 := Below.trans (by go_grown) (hb1.mono (by first | (simp; done) | (simp; omega)))
  have p0_1 := cellB hb1 p0_0.out
  have q0_1 := cellB hb1 q0_0.out
  go_wp2_with fail
  refine (HS.out _).mono ?_
  rintro e w2 ⟨vw, rfl, kw_2, hb2⟩
  have n2 := hb2.size
  have B2 := B1.trans (hb2.mono (by omega))
  have p0_2 := cellB hb2 p0_1
  have q0_2 := cellB hb2 q0_1
  clear p0_1 q0_1
  go_wp2_with fail
  refine (toStar_any _ _ _).mono ?_
  rintro e w3 ⟨rfl, hb3⟩
  have n3 := hb3.size
  have B3 := B2.trans (hb3.mono (by omega))
  have p0_3 := cellB hb3 p0_2
  have q0_3 := cellB hb3 q0_2
  clear p0_2 q0_2
  have kw_3 := kw_2.keep (belowSame hb3 (by omega))
  go_wp2_with fail
  refine (HI.out _).mono ?_
  rintro e w4 ⟨vg, rfl, kg_4, hb4⟩
  have n4 := hb4.size
  have B4 := B3.trans (hb4.mono (by omega))
  have p0_4 := cellB hb4 p0_3
  have q0_4 := cellB hb4 q0_3
  clear p0_3 q0_3
  have kw_4 := kw_3.keep (belowSame hb4 (by omega))
  go_wp2_with fail
  refine (eqChordS_in _ _ x _ _ _ _ _ _ kg_4 kw_4).mono ?_
  rintro e w5 ⟨rfl, hb5⟩
  have n5 := hb5.size
  have B5 := B4.trans (hb5.mono (by omega))
  have p0_5 := cellB hb5 p0_4
  have q0_5 := cellB hb5 q0_4
  clear p0_4 q0_4
  have kw_5 := kw_4.keep (belowSame hb5 (by omega))
  have kg_5 := kg_4.keep (belowSame hb5 (by omega))
  go_wp2_with fail
  refine (markChordS_in _ x 1 _ _ _ _ kg_5 (by omega) (by omega) (by omega)).mono ?_
  rintro e w6 ⟨rfl, mg_6, o6⟩
  have n6 := o6.size
  have B6 := B5.trans (o6.below (C := w.heap.size) (by omega) (by omega))
  have p0_6 := o6.cell (.inl (by omega)) p0_5
  have q0_6 := o6.cell (.inl (by omega)) q0_5
  clear p0_5 q0_5
  have kw_6 := kw_5.keep (o6.same_in (by omega) (by omega))
  have kg_6 := mg_6
  go_wp2_with fail
  refine (heldChordS_in _ 1 x.length _ _ _ _ kg_6 (by omega) (by omega) (by omega)).mono ?_
  rintro e w7 ⟨rfl, hb7⟩
  have n7 := hb7.size
  have B7 := B6.trans (hb7.mono (by omega))
  have p0_7 := cellB hb7 p0_6
  have q0_7 := cellB hb7 q0_6
  clear p0_6 q0_6
  have kw_7 := kw_6.keep (belowSame hb7 (by omega))
  have kg_7 := kg_6.keep (belowSame hb7 (by omega))
  go_wp2_with fail
  refine (toStar_any _ _ _).mono ?_
  rintro e w8 ⟨rfl, hb8⟩
  have n8 := hb8.size
  have B8 := B7.trans (hb8.mono (by omega))
  have p0_8 := cellB hb8 p0_7
  have q0_8 := cellB hb8 q0_7
  clear p0_7 q0_7
  have kw_8 := kw_7.keep (belowSame hb8 (by omega))
  have kg_8 := kg_7.keep (belowSame hb8 (by omega))
  go_wp2_with fail
  refine (HI.out _).mono ?_
  rintro e w9 ⟨vh, rfl, kh_9, hb9⟩
  have n9 := hb9.size
  have B9 := B8.trans (hb9.mono (by omega))
  have p0_9 := cellB hb9 p0_8
  have q0_9 := cellB hb9 q0_8
  clear p0_8 q0_8
  have kw_9 := kw_8.keep (belowSame hb9 (by omega))
  have kg_9 := kg_8.keep (belowSame hb9 (by omega))
  go_wp2_with fail
  refine (eqChordS_in _ _ x _ _ _ _ _ _ kh_9 kw_9).mono ?_
  rintro e w10 ⟨rfl, hb10⟩
  have n10 := hb10.size
  have B10 := B9.trans (hb10.mono (by omega))
  have p0_10 := cellB hb10 p0_9
  have q0_10 := cellB hb10 q0_9
  clear p0_9 q0_9
  have kw_10 := kw_9.keep (belowSame hb10 (by omega))
  have kg_10 := kg_9.keep (belowSame hb10 (by omega))
  have kh_10 := kh_9.keep (belowSame hb10 (by omega))
  go_wp2_with fail
  refine (heldChordS_in _ 1 x.length _ _ _ _ kg_10 (by omega) (by omega) (by omega)).mono ?_
  rintro e w11 ⟨rfl, hb11⟩
  have n11 := hb11.size
  have B11 := B10.trans (hb11.mono (by omega))
  have p0_11 := cellB hb11 p0_10
  have q0_11 := cellB hb11 q0_10
  clear p0_10 q0_10
  have kw_11 := kw_10.keep (belowSame hb11 (by omega))
  have kg_11 := kg_10.keep (belowSame hb11 (by omega))
  have kh_11 := kh_10.keep (belowSame hb11 (by omega))
  go_wp2_with fail
  go_ret
  exact ⟨rfl, B11⟩

set_option maxHeartbeats 400000 in
theorem core_ChordsOf (p s : Int) (x : List (Int × Int)) (b : Bool) (w : World) (hx : x.length ≤ 1000000)
    (hs : ∀ W, Calls Try.prog 43 #[.agg #[.int .i64 p, .int .i64 s]] W (Gives (PairsIn 50) W x b)) (hi : ∀ W, Calls Try.prog 45 #[.agg #[.int .i64 p, .int .i64 s]] W (Gives (PairsIn 50) W x b)) :
    Calls Try.prog 11 #[.agg #[.int .i64 p, .int .i64 s]] w fun e w' => e = .returned (.bool true) ∧ Below w.heap.size w w' := by
  have HS := Lib.hid hs
  have HI := Lib.hid hi
  clear hs hi
  have p0_0' : (w.alloc (.cells #[.int .i64 p, .int .i64 s] 54)).cell? ⟨w.heap.size, 0, none⟩ = some (.int .i64 p) := by go_simp
  have p0_0 := Lib.hid p0_0'
  clear p0_0'
  have q0_0' : (w.alloc (.cells #[.int .i64 p, .int .i64 s] 54)).cell? ⟨w.heap.size, 1, none⟩ = some (.int .i64 s) := by go_simp
  have q0_0 := Lib.hid q0_0'
  clear q0_0'
  go_enter Try.func11, Try.ntmps11
  go_wp2_with fail
  refine (toStar_any _ _ _).mono ?_
  rintro e w1 ⟨rfl, hb1⟩
  have n1 : w.heap.size + 1 ≤ w1.heap.size := by have := hb1.size; simp at this; omega
  have B1 : Below w.heap.size w w1 := Below.trans (by go_grown) (hb1.mono (by first | (simp; done) | (simp; omega)))
  have p0_1 := cellB hb1 p0_0.out
  have q0_1 := cellB hb1 q0_0.out
  go_wp2_with fail
  refine (HS.out _).mono ?_
  rintro e w2 ⟨vw, rfl, kw_2, hb2⟩
  have n2 := hb2.size
  have B2 := B1.trans (hb2.mono (by omega))
  have p0_2 := cellB hb2 p0_1
  have q0_2 := cellB hb2 q0_1
  clear p0_1 q0_1
  go_wp2_with fail
  refine (toStar_any _ _ _).mono ?_
  rintro e w3 ⟨rfl, hb3⟩
  have n3 := hb3.size
  have B3 := B2.trans (hb3.mono (by omega))
  have p0_3 := cellB hb3 p0_2
  have q0_3 := cellB hb3 q0_2
  clear p0_2 q0_2
  have kw_3 := kw_2.keep (belowSame hb3 (by omega))
  go_wp2_with fail
  refine (HI.out _).mono ?_
  rintro e w4 ⟨vg, rfl, kg_4, hb4⟩
  have n4 := hb4.size
  have B4 := B3.trans (hb4.mono (by omega))
  have p0_4 := cellB hb4 p0_3
  have q0_4 := cellB hb4 q0_3
  clear p0_3 q0_3
  have kw_4 := kw_3.keep (belowSame hb4 (by omega))
  go_wp2_with fail
  refine (eqChordS_in _ _ x _ _ _ _ _ _ kg_4 kw_4).mono ?_
  rintro e w5 ⟨rfl, hb5⟩
  have n5 := hb5.size
  have B5 := B4.trans (hb5.mono (by omega))
  have p0_5 := cellB hb5 p0_4
  have q0_5 := cellB hb5 q0_4
  clear p0_4 q0_4
  have kw_5 := kw_4.keep (belowSame hb5 (by omega))
  have kg_5 := kg_4.keep (belowSame hb5 (by omega))
  go_wp2_with fail
  refine (markChordS_in _ x 1 _ _ _ _ kg_5 (by omega) (by omega) (by omega)).mono ?_
  rintro e w6 ⟨rfl, mg_6, o6⟩
  have n6 := o6.size
  have B6 := B5.trans (o6.below (C := w.heap.size) (by omega) (by omega))
  have p0_6 := o6.cell (.inl (by omega)) p0_5
  have q0_6 := o6.cell (.inl (by omega)) q0_5
  clear p0_5 q0_5
  have kw_6 := kw_5.keep (o6.same_in (by omega) (by omega))
  have kg_6 := mg_6
  go_wp2_with fail
  refine (heldChordS_in _ 1 x.length _ _ _ _ kg_6 (by omega) (by omega) (by omega)).mono ?_
  rintro e w7 ⟨rfl, hb7⟩
  have n7 := hb7.size
  have B7 := B6.trans (hb7.mono (by omega))
  have p0_7 := cellB hb7 p0_6
  have q0_7 := cellB hb7 q0_6
  clear p0_6 q0_6
  have kw_7 := kw_6.keep (belowSame hb7 (by omega))
  have kg_7 := kg_6.keep (belowSame hb7 (by omega))
  go_wp2_with fail
  refine (toStar_any _ _ _).mono ?_
  rintro e w8 ⟨rfl, hb8⟩
  have n8 := hb8.size
  have B8 := B7.trans (hb8.mono (by omega))
  have p0_8 := cellB hb8 p0_7
  have q0_8 := cellB hb8 q0_7
  clear p0_7 q0_7
  have kw_8 := kw_7.keep (belowSame hb8 (by omega))
  have kg_8 := kg_7.keep (belowSame hb8 (by omega))
  go_wp2_with fail
  refine (HI.out _).mono ?_
  rintro e w9 ⟨vh, rfl, kh_9, hb9⟩
  have n9 := hb9.size
  have B9 := B8.trans (hb9.mono (by omega))
  have p0_9 := cellB hb9 p0_8
  have q0_9 := cellB hb9 q0_8
  clear p0_8 q0_8
  have kw_9 := kw_8.keep (belowSame hb9 (by omega))
  have kg_9 := kg_8.keep (belowSame hb9 (by omega))
  go_wp2_with fail
  refine (eqChordS_in _ _ x _ _ _ _ _ _ kh_9 kw_9).mono ?_
  rintro e w10 ⟨rfl, hb10⟩
  have n10 := hb10.size
  have B10 := B9.trans (hb10.mono (by omega))
  have p0_10 := cellB hb10 p0_9
  have q0_10 := cellB hb10 q0_9
  clear p0_9 q0_9
  have kw_10 := kw_9.keep (belowSame hb10 (by omega))
  have kg_10 := kg_9.keep (belowSame hb10 (by omega))
  have kh_10 := kh_9.keep (belowSame hb10 (by omega))
  go_wp2_with fail
  refine (heldChordS_in _ 1 x.length _ _ _ _ kg_10 (by omega) (by omega) (by omega)).mono ?_
  rintro e w11 ⟨rfl, hb11⟩
  have n11 := hb11.size
  have B11 := B10.trans (hb11.mono (by omega))
  have p0_11 := cellB hb11 p0_10
  have q0_11 := cellB hb11 q0_10
  clear p0_10 q0_10
  have kw_11 := kw_10.keep (belowSame hb11 (by omega))
  have kg_11 := kg_10.keep (belowSame hb11 (by omega))
  have kh_11 := kh_10.keep (belowSame hb11 (by omega))
  go_wp2_with fail
  go_ret
  exact ⟨rfl, B11⟩


theorem walk_TurnedStar (p s : Int) (k : Int) (w : World) (_ : (Lit.int .i64 p).wf = true) (_ : (Lit.int .i64 s).wf = true) (_ : (Lit.int .i64 k).wf = true) :
    Calls Try.prog 12 #[.agg #[.int .i64 p, .int .i64 s], .int .i64 k] w fun e w' => e = .returned (.bool true) ∧ Below w.heap.size w w' := by
  by_cases h : (3 ≤ p ∧ p ≤ 60 ∧ 1 ≤ s ∧ s < p) ∧ (0 ≤ k ∧ k < p)
  · obtain ⟨g, hk⟩ := h
    obtain ⟨p, rfl⟩ := Int.eq_ofNat_of_zero_le (show 0 ≤ p by omega)
    obtain ⟨s, rfl⟩ := Int.eq_ofNat_of_zero_le (show 0 ≤ s by omega)
    obtain ⟨k, rfl⟩ := Int.eq_ofNat_of_zero_le (show 0 ≤ k by omega)
    have h1 : 3 ≤ p ∧ p ≤ 60 ∧ 1 ≤ s ∧ s < p := by omega
    have hl := starC_length p s
    exact core_TurnedStar _ _ _ (starC p s) true w (by omega) (fun W => sTurnedStar_yes p s k W h1 (by omega)) (fun W => iTurnedStar_yes p s k W h1 (by omega))
  · exact core_TurnedStar _ _ _ [] false w (by simp) (fun W => sTurnedStar_no _ _ _ W h) (fun W => iTurnedStar_no _ _ _ W h)

theorem walk_ChordsOf (p s : Int) (w : World) (_ : (Lit.int .i64 p).wf = true) (_ : (Lit.int .i64 s).wf = true) :
    Calls Try.prog 11 #[.agg #[.int .i64 p, .int .i64 s]] w fun e w' => e = .returned (.bool true) ∧ Below w.heap.size w w' := by
  by_cases h : 3 ≤ p ∧ p ≤ 60 ∧ 1 ≤ s ∧ s < p
  · obtain ⟨p, rfl⟩ := Int.eq_ofNat_of_zero_le (show 0 ≤ p by omega)
    obtain ⟨s, rfl⟩ := Int.eq_ofNat_of_zero_le (show 0 ≤ s by omega)
    have h1 : 3 ≤ p ∧ p ≤ 60 ∧ 1 ≤ s ∧ s < p := by omega
    have hl := starC_length p s
    exact core_ChordsOf _ _ (starC p s) true w (by omega) (fun W => sChordsOf_yes p s W h1) (fun W => iChordsOf_yes p s W h1)
  · exact core_ChordsOf _ _ [] false w (by simp) (fun W => sChordsOf_no _ _ W h) (fun W => iChordsOf_no _ _ W h)

end Go.Proofs.Ytenkokkhdcjcaaa
