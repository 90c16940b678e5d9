/- Threads that texts tell: the law; what the world's listed variables give. -/
import Derived.Test.YtbgcbokddldmkaaDoorTh3
import Derived.Test.YtbgcbokddldmkaaDoorUK
namespace Go.Proofs.YtbgcbokddldmkaaDoor
open Go.RowKit
set_option linter.unusedVariables false

set_option maxHeartbeats 1000000 in
theorem core_ParseThreads (t : ByteArray) (x : List (Int × Int)) (b : Bool) (w : World) (hn : NumW w) (ht : t.size ≤ 1048576) (hx : x.length ≤ 1000000)
    (hs : ∀ W, Calls Tryd.prog 45 #[.string t] W (Gives (PairsIn 110) W x b)) (hi : ∀ W, NumW W → Calls Tryd.prog 46 #[.string t] W (Gives (PairsIn 110) W x b)) :
    Calls Tryd.prog 12 #[.string t] w fun e w' => e = .returned (.bool true) ∧ Below w.heap.size w w' := by
  have HS := Lib.hid hs
  have HI := Lib.hid hi
  have HN := Lib.hid hn
  have h0 : ¬ 1048576 < (t.size : Int) := by omega
  clear hs hi hn ht
  go_enter Tryd.func12, Tryd.ntmps12
  go_wp2_with fail
  refine (HS.out _).mono ?_
  rintro e w1 ⟨vw, rfl, kw_1, hb1⟩
  have n1 : w.heap.size ≤ w1.heap.size := by have := hb1.size; (try simp at this); omega
  have B1 : Below w.heap.size w w1 := Below.trans (by go_grown) (hb1.mono (by first | (simp; done) | (simp; omega)))
  go_wp2_with fail
  refine (HI.out _ (HN.out.later B1)).mono ?_
  rintro e w2 ⟨vg, rfl, kg_2, hb2⟩
  have n2 := hb2.size
  have B2 := B1.trans (hb2.mono (by omega))
  have kw_2 := kw_1.keep (belowSame hb2 (by omega))
  go_wp2_with fail
  refine (eqThreadS_in _ _ x _ _ _ _ _ _ kg_2 kw_2).mono ?_
  rintro e w3 ⟨rfl, hb3⟩
  have n3 := hb3.size
  have B3 := B2.trans (hb3.mono (by omega))
  have kw_3 := kw_2.keep (belowSame hb3 (by omega))
  have kg_3 := kg_2.keep (belowSame hb3 (by omega))
  go_wp2_with fail
  refine (markThreadS_in _ x 1 _ _ _ _ kg_3 (by omega) (by omega) (by omega)).mono ?_
  rintro e w4 ⟨rfl, mg_4, o4⟩
  have n4 := o4.size
  have B4 := B3.trans (o4.below (C := w.heap.size) (by omega) (by omega))
  have kw_4 := kw_3.keep (o4.same_in (by omega) (by omega))
  have kg_4 := mg_4
  go_wp2_with fail
  refine (heldThreadS_in _ 1 x.length _ _ _ _ kg_4 (by omega) (by omega) (by omega)).mono ?_
  rintro e w5 ⟨rfl, hb5⟩
  have n5 := hb5.size
  have B5 := B4.trans (hb5.mono (by omega))
  have kw_5 := kw_4.keep (belowSame hb5 (by omega))
  have kg_5 := kg_4.keep (belowSame hb5 (by omega))
  go_wp2_with fail
  refine (HI.out _ (HN.out.later B5)).mono ?_
  rintro e w6 ⟨vh, rfl, kh_6, hb6⟩
  have n6 := hb6.size
  have B6 := B5.trans (hb6.mono (by omega))
  have kw_6 := kw_5.keep (belowSame hb6 (by omega))
  have kg_6 := kg_5.keep (belowSame hb6 (by omega))
  go_wp2_with fail
  refine (eqThreadS_in _ _ x _ _ _ _ _ _ kh_6 kw_6).mono ?_
  rintro e w7 ⟨rfl, hb7⟩
  have n7 := hb7.size
  have B7 := B6.trans (hb7.mono (by omega))
  have kw_7 := kw_6.keep (belowSame hb7 (by omega))
  have kg_7 := kg_6.keep (belowSame hb7 (by omega))
  have kh_7 := kh_6.keep (belowSame hb7 (by omega))
  go_wp2_with fail
  refine (heldThreadS_in _ 1 x.length _ _ _ _ kg_7 (by omega) (by omega) (by omega)).mono ?_
  rintro e w8 ⟨rfl, hb8⟩
  have n8 := hb8.size
  have B8 := B7.trans (hb8.mono (by omega))
  have kw_8 := kw_7.keep (belowSame hb8 (by omega))
  have kg_8 := kg_7.keep (belowSame hb8 (by omega))
  have kh_8 := kh_7.keep (belowSame hb8 (by omega))
  go_wp2_with fail
  go_ret
  exact ⟨rfl, B8⟩

set_option maxHeartbeats 400000 in
theorem long_ParseThreads (t : ByteArray) (w : World) (ht : 1048576 < (t.size : Int)) :
    Calls Tryd.prog 12 #[.string t] w fun e w' => e = .returned (.bool true) ∧ Below w.heap.size w w' := by
  go_enter Tryd.func12, Tryd.ntmps12
  go_wp2
  go_ret
  exact ⟨rfl, Below.refl _ _⟩

theorem walk_ParseThreads (t : ByteArray) (w : World) (hn : NumW w) :
    Calls Tryd.prog 12 #[.string t] w fun e w' => e = .returned (.bool true) ∧ Below w.heap.size w w' := by
  by_cases ht : 1048576 < (t.size : Int)
  · exact long_ParseThreads t w ht
  · have ht' : t.size ≤ 1048576 := by omega
    by_cases h : ∃ xs, goodT xs ∧ t = textB xs xs.length
    · obtain ⟨xs, hg, h⟩ := h
      exact core_ParseThreads t xs true w hn ht' (by have := hg.1.2; omega) (fun W => sParseThreads_yes t xs W hg h) (fun W hW => iParseThreads_yes t xs W ht' hW hg h)
    · have h' : ∀ xs, goodT xs → t ≠ textB xs xs.length := fun xs hg e => h ⟨xs, hg, e⟩
      exact core_ParseThreads t [] false w hn ht' (by simp) (fun W => sParseThreads_no t W h') (fun W hW => iParseThreads_no t W ht' hW h')

theorem numW_ParseThreads {W : World} (hL : laidMetH Tryd.prog Rows.fnExactParseThreadsRow.laid W) (hsh : W.ShapedOpen Tryd.prog) : NumW W := by
  rw [Go.MakeChecks.laidMetH_plain _ _ _ (by kernel_rfl)] at hL
  have h1 : laidMet Tryd.prog (("internal/strconv.uint64pow10", Lib.tabData .u64 Lib.pow10Tab) :: ("unicode/utf8.acceptRanges", Rows.laid_unicode_utf8_acceptRanges) :: ("strconv.ErrRange", Rows.laid_strconv_ErrRange) :: ("strconv.ErrSyntax", Rows.laid_strconv_ErrSyntax) :: ("unicode/utf8.first", Rows.laid_unicode_utf8_first) :: []) W := hL.tail.tail
  have h2 : laidMet Tryd.prog (("strconv.ErrSyntax", Rows.laid_strconv_ErrSyntax) :: ("unicode/utf8.first", Rows.laid_unicode_utf8_first) :: []) W := hL.tail.tail.tail.tail.tail
  have h3 : laidMet Tryd.prog (("strconv.ErrRange", Rows.laid_strconv_ErrRange) :: ("strconv.ErrSyntax", Rows.laid_strconv_ErrSyntax) :: ("unicode/utf8.first", Rows.laid_unicode_utf8_first) :: []) W := hL.tail.tail.tail.tail
  exact ⟨Lib.tabIs_of_head (t := 204) g_tab (by kernel_rfl) Tryd.underlying204 Tryd.underlying184 (by kernel_rfl) (by kernel_rfl) h1, sentinel_of g_syn ty_syn h2, sentinel_of g_ran ty_ran h3, most_of hsh⟩

end Go.Proofs.YtbgcbokddldmkaaDoor
