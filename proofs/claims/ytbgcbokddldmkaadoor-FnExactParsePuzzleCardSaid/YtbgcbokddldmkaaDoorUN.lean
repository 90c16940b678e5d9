/- strconv.Itoa: what it asks of the world's variables. -/
import Derived.Test.YtbgcbokddldmkaaDoorSN
import Derived.Test.YtbgcbokddldmkaaDoorSp
import Derived.WalkSmall
import Derived.Lib.LaidTab
import Derived.Lib.SmallJoins
import Derived.Lib.ItoaMem
import Derived.MakeChecks
import Derived.Stop.LaidErr
import Derived.Shelf.Vars
namespace Go.Proofs.YtbgcbokddldmkaaDoor
open Go.RowKit
set_option linter.unusedVariables false

/-- The library's table of powers of ten holds them. -/
structure TabW (w : World) : Prop where
  tab : Lib.TabIs Tryd.prog w "internal/strconv.uint64pow10" .u64 Lib.pow10Tab

theorem g_tabW : Tryd.prog.globalNamed "internal/strconv.uint64pow10" = some 4 := by kernel_rfl

theorem TabW.later {w w' : World} (h : TabW w) (hb : Below w.heap.size w w') : TabW w' := ⟨Go.Joins.tab_stays g_tabW h.tab hb (Nat.le_refl _)⟩

theorem grow_belowW (w : World) (k : Nat) (os : Array Obj) : Below w.heap.size w (Sort.grow (w.drewN k) os) :=
  ⟨rfl, rfl, rfl, by show w.heap.size ≤ (w.heap ++ os).size; rw [Array.size_append]; omega, fun j hj => by show (w.heap ++ os)[j]? = w.heap[j]?; rw [Array.getElem?_append_left hj]⟩

theorem dB_i (n : Int) (h : 0 ≤ n) : (⟨(Lib.itoa n).toArray⟩ : ByteArray) = dB n.toNat := by
  unfold Lib.itoa dB
  rw [if_neg (by omega)]

theorem itoa_dB (n : Int) (w : World) (h0 : 0 ≤ n) (h1 : n ≤ 9223372036854775807) (h : TabW w) : Calls Tryd.prog 107 #[.int .i64 n] w fun e w' => e = .returned (.string (dB n.toNat)) ∧ Below w.heap.size w w' := by
  rw [← dB_i n h0]
  exact (Any.strconv_Itoa Tryd.itoaM n (by omega) h1 w h.tab).mono fun _ _ ⟨he, k, os, hw⟩ => ⟨he, by rw [hw]; exact grow_belowW w k os⟩

theorem l1Num_iB (n : Int) (w : World) (h0 : 0 ≤ n) (h1 : n < 1000000) : Calls Tryd.prog 106 #[.int .i64 n] w fun e w' => e = .returned (.string (dB n.toNat)) ∧ Below w.heap.size w w' := by
  obtain ⟨m, rfl⟩ := Int.eq_ofNat_of_zero_le h0
  exact l1Num_dB m m (Nat.le_refl _) (by omega) w

theorem tabW_PuzzleText {W : World} (hL : laidMetH Tryd.prog Rows.fnExactPuzzleTextRow.laid W) (hsh : W.ShapedOpen Tryd.prog) : TabW W := by
  rw [Go.MakeChecks.laidMetH_plain _ _ _ (by kernel_rfl)] at hL
  have h3 : laidMet Tryd.prog (("internal/strconv.uint64pow10", Lib.tabData .u64 Lib.pow10Tab) :: [("loop.example/g01324/impl.boundsOfKinds", Rows.laid_loop_example_g01324_impl_boundsOfKinds)]) W := hL.tail.tail
  exact ⟨Lib.tabIs_of_head (t := 204) g_tabW (by kernel_rfl) Tryd.underlying204 Tryd.underlying184 (by kernel_rfl) (by kernel_rfl) h3⟩

theorem tabW_ParsePuzzle {W : World} (hL : laidMetH Tryd.prog Rows.fnExactParsePuzzleRow.laid W) (hsh : W.ShapedOpen Tryd.prog) : TabW W := by
  rw [Go.MakeChecks.laidMetH_plain _ _ _ (by kernel_rfl)] at hL
  have h3 : laidMet Tryd.prog (("internal/strconv.uint64pow10", Lib.tabData .u64 Lib.pow10Tab) :: [("unicode/utf8.acceptRanges", Rows.laid_unicode_utf8_acceptRanges), ("strconv.ErrRange", Rows.laid_strconv_ErrRange), ("strconv.ErrSyntax", Rows.laid_strconv_ErrSyntax), ("loop.example/g01324/impl.boundsOfKinds", Rows.laid_loop_example_g01324_impl_boundsOfKinds), ("unicode/utf8.first", Rows.laid_unicode_utf8_first)]) W := hL.tail.tail
  exact ⟨Lib.tabIs_of_head (t := 204) g_tabW (by kernel_rfl) Tryd.underlying204 Tryd.underlying184 (by kernel_rfl) (by kernel_rfl) h3⟩

theorem tabW_ParseStar {W : World} (hL : laidMetH Tryd.prog Rows.fnExactParseStarRow.laid W) (hsh : W.ShapedOpen Tryd.prog) : TabW W := by
  rw [Go.MakeChecks.laidMetH_plain _ _ _ (by kernel_rfl)] at hL
  have h3 : laidMet Tryd.prog (("internal/strconv.uint64pow10", Lib.tabData .u64 Lib.pow10Tab) :: [("strconv.ErrRange", Rows.laid_strconv_ErrRange), ("strconv.ErrSyntax", Rows.laid_strconv_ErrSyntax)]) W := hL.tail.tail
  exact ⟨Lib.tabIs_of_head (t := 204) g_tabW (by kernel_rfl) Tryd.underlying204 Tryd.underlying184 (by kernel_rfl) (by kernel_rfl) h3⟩

theorem tabW_ParseChords {W : World} (hL : laidMetH Tryd.prog Rows.fnExactParseChordsRow.laid W) (hsh : W.ShapedOpen Tryd.prog) : TabW W := by
  rw [Go.MakeChecks.laidMetH_plain _ _ _ (by kernel_rfl)] at hL
  have h3 : laidMet Tryd.prog (("internal/strconv.uint64pow10", Lib.tabData .u64 Lib.pow10Tab) :: [("unicode/utf8.acceptRanges", Rows.laid_unicode_utf8_acceptRanges), ("strconv.ErrRange", Rows.laid_strconv_ErrRange), ("strconv.ErrSyntax", Rows.laid_strconv_ErrSyntax), ("unicode/utf8.first", Rows.laid_unicode_utf8_first)]) W := hL.tail.tail
  exact ⟨Lib.tabIs_of_head (t := 204) g_tabW (by kernel_rfl) Tryd.underlying204 Tryd.underlying184 (by kernel_rfl) (by kernel_rfl) h3⟩

theorem tabW_ParseThreads {W : World} (hL : laidMetH Tryd.prog Rows.fnExactParseThreadsRow.laid W) (hsh : W.ShapedOpen Tryd.prog) : TabW W := by
  rw [Go.MakeChecks.laidMetH_plain _ _ _ (by kernel_rfl)] at hL
  have h3 : laidMet Tryd.prog (("internal/strconv.uint64pow10", Lib.tabData .u64 Lib.pow10Tab) :: [("unicode/utf8.acceptRanges", Rows.laid_unicode_utf8_acceptRanges), ("strconv.ErrRange", Rows.laid_strconv_ErrRange), ("strconv.ErrSyntax", Rows.laid_strconv_ErrSyntax), ("unicode/utf8.first", Rows.laid_unicode_utf8_first)]) W := hL.tail.tail
  exact ⟨Lib.tabIs_of_head (t := 204) g_tabW (by kernel_rfl) Tryd.underlying204 Tryd.underlying184 (by kernel_rfl) (by kernel_rfl) h3⟩

end Go.Proofs.YtbgcbokddldmkaaDoor
