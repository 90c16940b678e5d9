/- The law of LongFactors. -/
import Derived.Test.YtincoaebdmikbaaTK
namespace Go.Proofs.Ytincoaebdmikbaa
open Go.RowKit
set_option linter.unusedVariables false

set_option maxHeartbeats 400000 in
theorem core_LongFactors (p : Int) (x : List Int) (n : Int) (b : Bool) (w : World) (hx : x.length ≤ 1000000)
    (hs : ∀ W, Calls Try.prog 38 #[.int .i64 p] W (GivesL W x n b)) (hi : ∀ W, Calls Try.prog 39 #[.int .i64 p] W (GivesL W x n b)) :
    Calls Try.prog 13 #[.int .i64 p] w fun e w' => e = .returned (.bool true) ∧ Below w.heap.size w w' := by
  have HS := Lib.hid hs
  have HI := Lib.hid hi
  clear hs hi
  go_enter Try.func13, Try.ntmps13
  go_wp2_with fail
  refine (HS.out _).mono ?_
  rintro e w1 ⟨vw, rfl, kw_1, hb1⟩
  have n1 : w.heap.size ≤ w1.heap.size := by have := hb1.size; (try simp at this); omega
  have B1 : Below w.heap.size w w1 := Below.trans (by go_grown) (hb1.mono (by first | (simp; done) | (simp; omega)))
  go_wp2_with fail
  refine (HI.out _).mono ?_
  rintro e w2 ⟨vg, rfl, kg_2, hb2⟩
  have n2 := hb2.size
  have B2 := B1.trans (hb2.mono (by omega))
  have kw_2 := kw_1.keep (belowSame hb2 (by omega))
  go_wp2_with fail
  refine (eqIntS_in _ _ x _ _ _ _ _ _ kg_2 kw_2).mono ?_
  rintro e w3 ⟨rfl, hb3⟩
  have n3 := hb3.size
  have B3 := B2.trans (hb3.mono (by omega))
  have kw_3 := kw_2.keep (belowSame hb3 (by omega))
  have kg_3 := kg_2.keep (belowSame hb3 (by omega))
  go_wp2_with fail
  refine (markIntS_in _ x 1 _ _ _ _ kg_3 (by omega) (by omega) (by omega)).mono ?_
  rintro e w4 ⟨rfl, mg_4, o4⟩
  have n4 := o4.size
  have B4 := B3.trans (o4.below (C := w.heap.size) (by omega) (by omega))
  have kw_4 := kw_3.keep (o4.same_in (by omega) (by omega))
  have kg_4 := mg_4
  go_wp2_with fail
  refine (heldIntS_in _ 1 x.length _ _ _ _ kg_4 (by omega) (by omega) (by omega)).mono ?_
  rintro e w5 ⟨rfl, hb5⟩
  have n5 := hb5.size
  have B5 := B4.trans (hb5.mono (by omega))
  have kw_5 := kw_4.keep (belowSame hb5 (by omega))
  have kg_5 := kg_4.keep (belowSame hb5 (by omega))
  go_wp2_with fail
  refine (HI.out _).mono ?_
  rintro e w6 ⟨vh, rfl, kh_6, hb6⟩
  have n6 := hb6.size
  have B6 := B5.trans (hb6.mono (by omega))
  have kw_6 := kw_5.keep (belowSame hb6 (by omega))
  have kg_6 := kg_5.keep (belowSame hb6 (by omega))
  go_wp2_with fail
  refine (eqIntS_in _ _ x _ _ _ _ _ _ kh_6 kw_6).mono ?_
  rintro e w7 ⟨rfl, hb7⟩
  have n7 := hb7.size
  have B7 := B6.trans (hb7.mono (by omega))
  have kw_7 := kw_6.keep (belowSame hb7 (by omega))
  have kg_7 := kg_6.keep (belowSame hb7 (by omega))
  have kh_7 := kh_6.keep (belowSame hb7 (by omega))
  go_wp2_with fail
  refine (heldIntS_in _ 1 x.length _ _ _ _ kg_7 (by omega) (by omega) (by omega)).mono ?_
  rintro e w8 ⟨rfl, hb8⟩
  have n8 := hb8.size
  have B8 := B7.trans (hb8.mono (by omega))
  have kw_8 := kw_7.keep (belowSame hb8 (by omega))
  have kg_8 := kg_7.keep (belowSame hb8 (by omega))
  have kh_8 := kh_7.keep (belowSame hb8 (by omega))
  go_wp2_with fail
  go_ret
  exact ⟨rfl, B8⟩

theorem walk_LongFactors (p : Int) (w : World) (_ : (Lit.int .i64 p).wf = true) :
    Calls Try.prog 13 #[.int .i64 p] w fun e w' => e = .returned (.bool true) ∧ Below w.heap.size w w' := by
  by_cases h : 3 ≤ p ∧ p ≤ 60
  · obtain ⟨p, rfl⟩ := Int.eq_ofNat_of_zero_le (show 0 ≤ p by omega)
    have h1 : 3 ≤ p ∧ p ≤ 60 := by omega
    refine core_LongFactors _ (longL p p) (longM p p : Nat) true w (by have := longL_length p p; omega) (fun W => sLong_yes p W h1) (fun W => ?_)
    rw [longL_all p h1]
    exact iLong_yes p _ _ W h1 rfl (fun _ _ => rfl)
  · exact core_LongFactors _ [] 0 false w (by simp) (fun W => sLong_no _ W h) (fun W => iLong_no _ W h)

end Go.Proofs.Ytincoaebdmikbaa
