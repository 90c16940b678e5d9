/- The steps of all stars of so many points, and those with one string. -/
import Derived.Test.YtjpillccpnjdiaaV3
import Derived.Test.YtjpillccpnjdiaaB4
namespace Go.Proofs.Ytjpillccpnjdiaa
open Go.RowKit

theorem walk_StringOf (p s k : Int) (w : World) (_ : (Lit.int .i64 p).wf = true) (_ : (Lit.int .i64 s).wf = true) (_ : (Lit.int .i64 k).wf = true) :
    Calls Try.prog 9 #[.agg #[.int .i64 p, .int .i64 s], .int .i64 k] w fun e w' => e = .returned (.bool true) ∧ Below w.heap.size w w' := by
  by_cases h : (3 ≤ p ∧ p ≤ 60 ∧ 1 ≤ s ∧ s < p) ∧ (0 ≤ k ∧ k < p)
  · obtain ⟨p, rfl⟩ := Int.eq_ofNat_of_zero_le (show 0 ≤ p by omega)
    obtain ⟨s, rfl⟩ := Int.eq_ofNat_of_zero_le (show 0 ≤ s by omega)
    obtain ⟨k, rfl⟩ := Int.eq_ofNat_of_zero_le (show 0 ≤ k by omega)
    have h1 : 3 ≤ p ∧ p ≤ 60 ∧ 1 ≤ s ∧ s < p := by omega
    have hd : p / Nat.gcd p s ≤ p := Nat.div_le_self _ _
    exact core_StringOf _ _ _ _ true w (by rw [strL_length]; omega) (fun W => sStringOf_yes p s k W h1 (by omega)) (fun W => iStringOf_yes p s k W h1 (by omega))
  · exact core_StringOf _ _ _ [] false w (by simp) (fun W => sStringOf_no _ _ _ W h) (fun W => iStringOf_no _ _ _ W h)

set_option maxHeartbeats 400000 in
theorem iStarsOf_yes (p : Nat) (w : World) (h : 3 ≤ p ∧ p ≤ 60) :
    Calls Try.prog 39 #[.int .i64 p] w (Gives (IntsIn 3) w (upTo (p / 2)) true) := by
  obtain ⟨n, hn⟩ : ∃ n, n = p / 2 := ⟨_, rfl⟩
  have hq : (p : Int) / 2 = (n : Int) := by rw [hn]; simp
  have hn2 : n ≤ 30 := by omega
  rw [← hn]
  have hmk := make_ints (P := Try.prog) Try.underlying34 info_int n (by omega)
  clear hn
  obtain ⟨h1, h2⟩ := h
  go_enter Try.func39, Try.ntmps39
  go_wp2_with (first | (go_at_call 47; (with_reducible refine (isPointCount_yes _ _ (by omega)).mono ?_); rintro e w1 ⟨rfl, rfl⟩))
  clear hmk hq
  have HI0 := Lib.hid (Ints.made w w.heap.size 3 n (Nat.le_refl _) (by omega))
  have HB0 := Lib.hid ((Below.refl w.heap.size w).alloc (Nat.le_refl _) (.cells (zeroInts n) 3))
  have HL := Lib.hid (fillTo_zero (fun (i : Nat) => (i : Int) + 1) n)
  go_loopw [14] (fun i wr => ∃ j : Nat, j ≤ n ∧ i = .int .i64 j ∧ Ints wr w.heap.size 3 (.slice (some ⟨w.heap.size, 0, none⟩) n n) (fillTo (fun (i : Nat) => (i : Int) + 1) n j) ∧ Below w.heap.size w wr) (fun i _ => n - (intOf i).toNat)
  case atStart => exact ⟨0, by omega, rfl, by rw [HL.out]; exact HI0.out, HB0.out⟩
  case round =>
    obtain ⟨j, hj, rfl, hI, hB⟩ := hrel
    by_cases hlt : j < n
    · have hst := hI.stored j ((j : Int) + 1)
      rw [fillTo_set (fun (i : Nat) => (i : Int) + 1) n j hlt] at hst
      have cc := hI.cellAt j (by rw [fillTo_length _ n j hj]; exact hlt)
      have ff := hI.frozenAt j
      have HS := Lib.hid hst
      clear hst hI
      go_wp2
      go_roundw
      case rel => exact ⟨j + 1, by omega, by go_num, HS.out.1, hB.setCell (by simp) _⟩
      case measure => simp [intOf]; omega
    · obtain rfl : j = n := by omega
      rw [fillTo_all] at hI
      go_wp2
      go_ret2
      exact giveInts true hI (Nat.le_refl _) hB

set_option maxHeartbeats 400000 in
theorem iStarsOf_no (p : Int) (w : World) (h : ¬ (3 ≤ p ∧ p ≤ 60)) :
    Calls Try.prog 39 #[.int .i64 p] w (Gives (IntsIn 3) w [] false) := by
  go_enter Try.func39, Try.ntmps39
  go_wp2_with (first | (go_at_call 47; (with_reducible refine (isPointCount_no _ _ h).mono ?_); rintro e w1 ⟨rfl, rfl⟩))
  go_ret2
  exact giveNoInts (Below.refl _ _)

set_option maxHeartbeats 400000 in
theorem sStarsOf_yes (p : Nat) (w : World) (h : 3 ≤ p ∧ p ≤ 60) :
    Calls Try.prog 38 #[.int .i64 p] w (Gives (IntsIn 3) w (upTo (p / 2)) true) := by
  obtain ⟨h1, h2⟩ := h
  go_enter Try.func38, Try.ntmps38
  go_wp2_with (first | (go_at_call 56; (with_reducible refine (srPoints_yes _ _ (by omega)).mono ?_); rintro e w1 ⟨rfl, rfl⟩))
  go_loopw [4, 5] (fun u v wr => ∃ m : Nat, m ≤ p / 2 ∧ v = .int .i64 ((m + 1 : Nat) : Int) ∧ Ints wr w.heap.size 3 u (upTo m) ∧ Below w.heap.size w wr) (fun _ v _ => p - (intOf v).toNat)
  case atStart => exact ⟨0, by omega, rfl, World.ownsRow_nil _ _ _ _, Below.refl _ _⟩
  case round =>
    obtain ⟨m, hm, rfl, hI, hB⟩ := hrel
    have HI := Lib.hid hI
    have hz := hB.size
    clear hI
    by_cases hlt : m < p / 2
    · have ht : 2 * ((m : Int) + 1) ≤ p := by omega
      go_wp2_with (at_builtin; refine wpList_append_int rfl _ _ 34 rfl (w.heap.size) 3 Try.underlying34 info_int _ _ rfl HI.out ((m : Int) + 1) rfl (by rw [upTo_length]; omega) (by omega) ?_; intro v' w' hI' hg';  have hB' := HI.out.below hB hz hg'; rw [upTo_succ] at hI'; have HI' := Lib.hid hI'; clear hI' hB)
      go_roundw
      case rel => exact ⟨m + 1, by omega, by go_num, HI'.out, hB'⟩
      case measure => simp [intOf]; omega
    · obtain rfl : m = p / 2 := by omega
      go_wp2
      go_ret2
      exact giveInts true HI.out (Nat.le_refl _) hB

set_option maxHeartbeats 400000 in
theorem sStarsOf_no (p : Int) (w : World) (h : ¬ (3 ≤ p ∧ p ≤ 60)) :
    Calls Try.prog 38 #[.int .i64 p] w (Gives (IntsIn 3) w [] false) := by
  go_enter Try.func38, Try.ntmps38
  go_wp2_with (first | (go_at_call 56; (with_reducible refine (srPoints_no _ _ h).mono ?_); rintro e w1 ⟨rfl, rfl⟩))
  go_ret2
  exact giveNoInts (Below.refl _ _)

set_option maxHeartbeats 400000 in
theorem core_StarsOf (p : Int) (x : List Int) (b : Bool) (w : World) (hx : x.length ≤ 1000000)
    (hs : ∀ W, Calls Try.prog 38 #[.int .i64 p] W (Gives (IntsIn 3) W x b)) (hi : ∀ W, Calls Try.prog 39 #[.int .i64 p] W (Gives (IntsIn 3) W x b)) :
    Calls Try.prog 11 #[.int .i64 p] w fun e w' => e = .returned (.bool true) ∧ Below w.heap.size w w' := by
  have HS := Lib.hid hs
  have HI := Lib.hid hi
  clear hs hi
  go_enter Try.func11, Try.ntmps11
  go_wp2_with fail
  refine (HS.out _).mono ?_
  rintro e w1 ⟨vw, rfl, kw_1, hb1⟩
  have n1 : w.heap.size ≤ w1.heap.size := by have := hb1.size; (try simp at this); omega
  have B1 : Below w.heap.size w w1 := Below.trans (by go_grown) (hb1.mono (by first | (simp; done) | (simp; omega)))
  go_wp2_with fail
  refine (HI.out _).mono ?_
  rintro e w2 ⟨vg, rfl, kg_2, hb2⟩
  have n2 := hb2.size
  have B2 := B1.trans (hb2.mono (by omega))
  have kw_2 := kw_1.keep (belowSame hb2 (by omega))
  go_wp2_with fail
  refine (eqIntS_in _ _ x _ _ _ _ _ _ kg_2 kw_2).mono ?_
  rintro e w3 ⟨rfl, hb3⟩
  have n3 := hb3.size
  have B3 := B2.trans (hb3.mono (by omega))
  have kw_3 := kw_2.keep (belowSame hb3 (by omega))
  have kg_3 := kg_2.keep (belowSame hb3 (by omega))
  go_wp2_with fail
  refine (markIntS_in _ x 1 _ _ _ _ kg_3 (by omega) (by omega) (by omega)).mono ?_
  rintro e w4 ⟨rfl, mg_4, o4⟩
  have n4 := o4.size
  have B4 := B3.trans (o4.below (C := w.heap.size) (by omega) (by omega))
  have kw_4 := kw_3.keep (o4.same_in (by omega) (.inl (by omega)))
  have kg_4 := mg_4
  go_wp2_with fail
  refine (heldIntS_in _ 1 x.length _ _ _ _ kg_4 (by omega) (by omega) (by omega)).mono ?_
  rintro e w5 ⟨rfl, hb5⟩
  have n5 := hb5.size
  have B5 := B4.trans (hb5.mono (by omega))
  have kw_5 := kw_4.keep (belowSame hb5 (by omega))
  have kg_5 := kg_4.keep (belowSame hb5 (by omega))
  go_wp2_with fail
  refine (HI.out _).mono ?_
  rintro e w6 ⟨vh, rfl, kh_6, hb6⟩
  have n6 := hb6.size
  have B6 := B5.trans (hb6.mono (by omega))
  have kw_6 := kw_5.keep (belowSame hb6 (by omega))
  have kg_6 := kg_5.keep (belowSame hb6 (by omega))
  go_wp2_with fail
  refine (eqIntS_in _ _ x _ _ _ _ _ _ kh_6 kw_6).mono ?_
  rintro e w7 ⟨rfl, hb7⟩
  have n7 := hb7.size
  have B7 := B6.trans (hb7.mono (by omega))
  have kw_7 := kw_6.keep (belowSame hb7 (by omega))
  have kg_7 := kg_6.keep (belowSame hb7 (by omega))
  have kh_7 := kh_6.keep (belowSame hb7 (by omega))
  go_wp2_with fail
  refine (heldIntS_in _ 1 x.length _ _ _ _ kg_7 (by omega) (by omega) (by omega)).mono ?_
  rintro e w8 ⟨rfl, hb8⟩
  have n8 := hb8.size
  have B8 := B7.trans (hb8.mono (by omega))
  have kw_8 := kw_7.keep (belowSame hb8 (by omega))
  have kg_8 := kg_7.keep (belowSame hb8 (by omega))
  have kh_8 := kh_7.keep (belowSame hb8 (by omega))
  go_wp2_with fail
  go_ret
  exact ⟨rfl, B8⟩

set_option maxHeartbeats 400000 in
theorem core_OneString (p : Int) (x : List Int) (b : Bool) (w : World) (hx : x.length ≤ 1000000)
    (hs : ∀ W, Calls Try.prog 40 #[.int .i64 p] W (Gives (IntsIn 3) W x b)) (hi : ∀ W, Calls Try.prog 41 #[.int .i64 p] W (Gives (IntsIn 3) W x b)) :
    Calls Try.prog 12 #[.int .i64 p] w fun e w' => e = .returned (.bool true) ∧ Below w.heap.size w w' := by
  have HS := Lib.hid hs
  have HI := Lib.hid hi
  clear hs hi
  go_enter Try.func12, Try.ntmps12
  go_wp2_with fail
  refine (HS.out _).mono ?_
  rintro e w1 ⟨vw, rfl, kw_1, hb1⟩
  have n1 : w.heap.size ≤ w1.heap.size := by have := hb1.size; (try simp at this); omega
  have B1 : Below w.heap.size w w1 := Below.trans (by go_grown) (hb1.mono (by first | (simp; done) | (simp; omega)))
  go_wp2_with fail
  refine (HI.out _).mono ?_
  rintro e w2 ⟨vg, rfl, kg_2, hb2⟩
  have n2 := hb2.size
  have B2 := B1.trans (hb2.mono (by omega))
  have kw_2 := kw_1.keep (belowSame hb2 (by omega))
  go_wp2_with fail
  refine (eqIntS_in _ _ x _ _ _ _ _ _ kg_2 kw_2).mono ?_
  rintro e w3 ⟨rfl, hb3⟩
  have n3 := hb3.size
  have B3 := B2.trans (hb3.mono (by omega))
  have kw_3 := kw_2.keep (belowSame hb3 (by omega))
  have kg_3 := kg_2.keep (belowSame hb3 (by omega))
  go_wp2_with fail
  refine (markIntS_in _ x 1 _ _ _ _ kg_3 (by omega) (by omega) (by omega)).mono ?_
  rintro e w4 ⟨rfl, mg_4, o4⟩
  have n4 := o4.size
  have B4 := B3.trans (o4.below (C := w.heap.size) (by omega) (by omega))
  have kw_4 := kw_3.keep (o4.same_in (by omega) (.inl (by omega)))
  have kg_4 := mg_4
  go_wp2_with fail
  refine (heldIntS_in _ 1 x.length _ _ _ _ kg_4 (by omega) (by omega) (by omega)).mono ?_
  rintro e w5 ⟨rfl, hb5⟩
  have n5 := hb5.size
  have B5 := B4.trans (hb5.mono (by omega))
  have kw_5 := kw_4.keep (belowSame hb5 (by omega))
  have kg_5 := kg_4.keep (belowSame hb5 (by omega))
  go_wp2_with fail
  refine (HI.out _).mono ?_
  rintro e w6 ⟨vh, rfl, kh_6, hb6⟩
  have n6 := hb6.size
  have B6 := B5.trans (hb6.mono (by omega))
  have kw_6 := kw_5.keep (belowSame hb6 (by omega))
  have kg_6 := kg_5.keep (belowSame hb6 (by omega))
  go_wp2_with fail
  refine (eqIntS_in _ _ x _ _ _ _ _ _ kh_6 kw_6).mono ?_
  rintro e w7 ⟨rfl, hb7⟩
  have n7 := hb7.size
  have B7 := B6.trans (hb7.mono (by omega))
  have kw_7 := kw_6.keep (belowSame hb7 (by omega))
  have kg_7 := kg_6.keep (belowSame hb7 (by omega))
  have kh_7 := kh_6.keep (belowSame hb7 (by omega))
  go_wp2_with fail
  refine (heldIntS_in _ 1 x.length _ _ _ _ kg_7 (by omega) (by omega) (by omega)).mono ?_
  rintro e w8 ⟨rfl, hb8⟩
  have n8 := hb8.size
  have B8 := B7.trans (hb8.mono (by omega))
  have kw_8 := kw_7.keep (belowSame hb8 (by omega))
  have kg_8 := kg_7.keep (belowSame hb8 (by omega))
  have kh_8 := kh_7.keep (belowSame hb8 (by omega))
  go_wp2_with fail
  go_ret
  exact ⟨rfl, B8⟩

theorem walk_StarsOf (p : Int) (w : World) (_ : (Lit.int .i64 p).wf = true) :
    Calls Try.prog 11 #[.int .i64 p] w fun e w' => e = .returned (.bool true) ∧ Below w.heap.size w w' := by
  by_cases h : 3 ≤ p ∧ p ≤ 60
  · obtain ⟨p, rfl⟩ := Int.eq_ofNat_of_zero_le (show 0 ≤ p by omega)
    have h1 : 3 ≤ p ∧ p ≤ 60 := by omega
    exact core_StarsOf _ _ true w (by rw [upTo_length]; omega) (fun W => sStarsOf_yes p W h1) (fun W => iStarsOf_yes p W h1)
  · exact core_StarsOf _ [] false w (by simp) (fun W => sStarsOf_no _ W h) (fun W => iStarsOf_no _ W h)

end Go.Proofs.Ytjpillccpnjdiaa
