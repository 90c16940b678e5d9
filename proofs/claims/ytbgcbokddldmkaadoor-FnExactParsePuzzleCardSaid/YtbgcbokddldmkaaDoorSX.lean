/- Stars that texts tell: the law; what the world's listed variables give. -/
import Derived.Test.YtbgcbokddldmkaaDoorSV
import Derived.Test.YtbgcbokddldmkaaDoorRows
import Derived.Stop.LaidErr
import Derived.Shelf.Vars
import Derived.Lib.LaidTab
import Derived.MakeChecks
namespace Go.Proofs.YtbgcbokddldmkaaDoor
open Go.RowKit
set_option linter.unusedVariables false

set_option maxHeartbeats 400000 in
theorem eqStar_sameX (p s : Int) (w : World) :
    Calls Tryd.prog 39 #[.agg #[.int .i64 p, .int .i64 s], .agg #[.int .i64 p, .int .i64 s]] w fun e w' => e = .returned (.bool true) ∧ Below w.heap.size w w' := by
  go_enter Tryd.func39, Tryd.ntmps39
  go_wp2
  go_ret
  exact ⟨rfl, by first | exact Below.refl _ _ | go_grown⟩

set_option maxHeartbeats 1000000 in
theorem core_ParseStar (t : ByteArray) (p s : Int) (b : Bool) (w : World) (hn : NumW w) (ht : t.size ≤ 1048576)
    (hs : ∀ w : World, Calls Tryd.prog 37 #[.string t] w fun e w' => e = .returned (.tuple #[.agg #[.int .i64 p, .int .i64 s], .bool b]) ∧ Below w.heap.size w w')
    (hi : ∀ w : World, NumW w → Calls Tryd.prog 38 #[.string t] w fun e w' => e = .returned (.tuple #[.agg #[.int .i64 p, .int .i64 s], .bool b]) ∧ Below w.heap.size w w') :
    Calls Tryd.prog 10 #[.string t] w fun e w' => e = .returned (.bool true) ∧ Below w.heap.size w w' := by
  have HS := Lib.hid hs
  have HI := Lib.hid hi
  have HN := Lib.hid hn
  have h0 : ¬ 1048576 < (t.size : Int) := by omega
  clear hs hi hn ht
  go_enter Tryd.func10, Tryd.ntmps10
  go_wp2_with (first | (go_at_call 37; (refine (HS.out _).mono ?_); rintro e w1 ⟨rfl, hb1⟩) | (go_at_call 38; (refine (HI.out _ (HN.out.later (hb1.trans ((show Below w1.heap.size w1 (w1.alloc _) from by go_grown).mono hb1.size)))).mono ?_); rintro e w2 ⟨rfl, hb2⟩; (have d0 : w2.cell? ⟨w1.heap.size, 0, none⟩ = some (.int .i64 p) := cellB hb2 (by go_simp)); (have d1 : w2.cell? ⟨w1.heap.size, 1, none⟩ = some (.int .i64 s) := cellB hb2 (by go_simp)); (have hz1 := hb1.size); (have hz2 : w1.heap.size < w2.heap.size := by have := hb2.size; simp at this; omega); (have hB2 : Below w.heap.size w w2 := hb1.trans (Below.trans (show Below w.heap.size w1 (w1.alloc _) from by go_grown) (hb2.mono (by simp; omega)))); clear hb2) | (go_at_call 39; go_loud ((refine (eqStar_sameX _ _ _).mono ?_); rintro e w3 ⟨rfl, hb3⟩; (have hB3 : Below w.heap.size w w3 := hB2.trans (Below.trans (show Below w.heap.size w2 (w2.alloc _) from by go_grown) (hb3.mono (by simp; omega)))))))
  go_ret
  exact ⟨rfl, hB3⟩

set_option maxHeartbeats 400000 in
theorem long_ParseStar (t : ByteArray) (w : World) (ht : 1048576 < (t.size : Int)) :
    Calls Tryd.prog 10 #[.string t] w fun e w' => e = .returned (.bool true) ∧ Below w.heap.size w w' := by
  go_enter Tryd.func10, Tryd.ntmps10
  go_wp2
  go_ret
  exact ⟨rfl, Below.refl _ _⟩

theorem walk_ParseStar (t : ByteArray) (w : World) (hn : NumW w) :
    Calls Tryd.prog 10 #[.string t] w fun e w' => e = .returned (.bool true) ∧ Below w.heap.size w w' := by
  by_cases ht : 1048576 < (t.size : Int)
  · exact long_ParseStar t w ht
  · have ht' : t.size ≤ 1048576 := by omega
    by_cases h : ∃ p s, GoodS p s ∧ t.data.toList = starL p s
    · obtain ⟨p, s, hg, h⟩ := h
      exact core_ParseStar t _ _ _ w hn ht' (fun W => sParseStar_yes t p s W hg h) (fun W hW => iParseStar_yes t p s W ht' hW hg h)
    · have h' : ∀ p s, GoodS p s → t.data.toList ≠ starL p s := fun p s hg e => h ⟨p, s, hg, e⟩
      exact core_ParseStar t _ _ _ w hn ht' (fun W => sParseStar_no t W h') (fun W hW => iParseStar_no t W ht' hW h')

/-! What the world's variables give. -/
theorem star_es : "*" ++ "errors.errorString" = "*errors.errorString" := by decide
theorem rowES (u : TypeId) (h : Tryd.prog.typeName? 3 u = some "*errors.errorString") : u = 224 :=
  typeName_ptr_named (nm := "errors.errorString") (by rw [star_es]; kernel_rfl) (by kernel_rfl) (by decide) u (by rw [star_es]; exact h)
theorem cellsES : Tryd.prog.cellsOf 226 = 1 := by kernel_rfl
theorem cellsStr : Tryd.prog.cellsOf 9 = 1 := by kernel_rfl
theorem ty_syn : (Tryd.prog.globals[7]?).map (·.type) = some 152 := by kernel_rfl
theorem ty_ran : (Tryd.prog.globals[8]?).map (·.type) = some 152 := by kernel_rfl

theorem sentinel_of {W : World} {n : String} {g : Nat} {text : List UInt8} {r : List (String × DataW Unit)} (hg : Tryd.prog.globalNamed n = some g) (ht : (Tryd.prog.globals[g]?).map (·.type) = some 152)
    (hL : laidMet Tryd.prog ((n, .iface "*errors.errorString" (.ptr (.agg [.lit (.string text)]))) :: r) W) : ∃ tp p, W.var? Tryd.prog n = some #[.iface tp p] := by
  obtain ⟨a, s, h, _⟩ := laid_sentinel hL hg ht Tryd.underlying152 rowES Tryd.underlying224 Tryd.underlying226 rfl rfl Tryd.underlying9 cellsES cellsStr
  exact ⟨_, _, h⟩

theorem most_of {W : World} (h : W.ShapedOpen Tryd.prog) : ∃ m, W.cell? ⟨3, 0, none⟩ = some (.int .i64 m) :=
  cell_of_shapedOpen_int (t := 3) (zero := #[.int .i64 0]) h (of_decide_eq_true (by kernel_rfl)) (by kernel_rfl) rfl (by kernel_rfl) (by kernel_rfl) Tryd.underlying3

theorem numW_ParseStar {W : World} (hL : laidMetH Tryd.prog Rows.fnExactParseStarRow.laid W) (hsh : W.ShapedOpen Tryd.prog) : NumW W := by
  rw [Go.MakeChecks.laidMetH_plain _ _ _ (by kernel_rfl)] at hL
  have h1 : laidMet Tryd.prog (("internal/strconv.uint64pow10", Lib.tabData .u64 Lib.pow10Tab) :: ("strconv.ErrRange", Rows.laid_strconv_ErrRange) :: ("strconv.ErrSyntax", Rows.laid_strconv_ErrSyntax) :: []) W := hL.tail.tail
  have h2 : laidMet Tryd.prog (("strconv.ErrSyntax", Rows.laid_strconv_ErrSyntax) :: []) W := hL.tail.tail.tail.tail
  have h3 : laidMet Tryd.prog (("strconv.ErrRange", Rows.laid_strconv_ErrRange) :: ("strconv.ErrSyntax", Rows.laid_strconv_ErrSyntax) :: []) W := hL.tail.tail.tail
  exact ⟨Lib.tabIs_of_head (t := 204) g_tab (by kernel_rfl) Tryd.underlying204 Tryd.underlying184 (by kernel_rfl) (by kernel_rfl) h1, sentinel_of g_syn ty_syn h2, sentinel_of g_ran ty_ran h3, most_of hsh⟩

end Go.Proofs.YtbgcbokddldmkaaDoor
