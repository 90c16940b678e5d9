/- Stars that texts tell: the program's reader. -/
import Derived.Test.YtbgcbokddldmkaaDoorNP
import Derived.Test.YtbgcbokddldmkaaDoorW1
namespace Go.Proofs.YtbgcbokddldmkaaDoor
open Go.RowKit
set_option linter.unusedVariables false

/-- What the program cuts off a text. -/
structure CutsT (t r1 r2 : ByteArray) (p s : Int) (o1 o2 o3 : Bool) : Prop where
  pre : ∀ W, Calls Tryd.prog 79 #[.string t, .string ⟨#[123]⟩] W fun e w' => e = .returned (.tuple #[.string r1, .bool o1]) ∧ w' = W
  suf : ∀ W, Calls Tryd.prog 80 #[.string r1, .string ⟨#[125]⟩] W fun e w' => e = .returned (.tuple #[.string r2, .bool o2]) ∧ w' = W
  pair : ∀ W, NumW W → Calls Tryd.prog 81 #[.string r2, .string ⟨#[47]⟩] W fun e w' => e = .returned (.tuple #[.int .i64 p, .int .i64 s, .bool o3]) ∧ Below W.heap.size W w'

/-- The text between the two brackets. -/
def midT (l : List UInt8) : List UInt8 := Lib.trimSuffix (Lib.trimPrefix l [123]) [125]

theorem cutsT (t : ByteArray) (ht : t.size ≤ 1048576) :
    CutsT t ⟨(Lib.trimPrefix t.data.toList [123]).toArray⟩ ⟨(midT t.data.toList).toArray⟩
      (((readP 47 (midT t.data.toList)).getD (0, 0)).1 : Nat) (((readP 47 (midT t.data.toList)).getD (0, 0)).2 : Nat)
      (Lib.hasPrefix t.data.toList [123]) (Lib.hasSuffix (Lib.trimPrefix t.data.toList [123]) [125]) (readP 47 (midT t.data.toList)).isSome := by
  have l0 : t.data.toList.length ≤ 1048576 := by rw [← Lib.size_eq]; exact ht
  have l1 := Lib.trimPrefix_le t.data.toList [123]
  have l2 := Lib.trimSuffix_le (Lib.trimPrefix t.data.toList [123]) [125]
  refine ⟨fun W => Any.strings_CutPrefix Tryd.cutPre t ⟨#[123]⟩ W, fun W => ?_, fun W hW => ?_⟩
  · exact Any.strings_CutSuffix Tryd.cutSuf ⟨(Lib.trimPrefix t.data.toList [123]).toArray⟩ ⟨#[125]⟩ W (by rw [list_size]; omega)
  · have h := numberPair_any ⟨(midT t.data.toList).toArray⟩ 47 W (by rw [list_size]; unfold midT; omega) hW
    rw [data_arr] at h
    exact h

set_option maxHeartbeats 2000000 in
theorem iParse_cut (t r1 r2 : ByteArray) (p s : Int) (o1 o2 o3 : Bool) (w : World) (hC : CutsT t r1 r2 p s o1 o2 o3) (hn : NumW w) (h : (o1 && o2 && o3) = false) :
    Calls Tryd.prog 38 #[.string t] w fun e w' => e = .returned (.tuple #[.agg #[.int .i64 0, .int .i64 0], .bool false]) ∧ Below w.heap.size w w' := by
  have C := Lib.hid hC
  have HN := Lib.hid hn
  clear hC hn
  cases o1 <;> cases o2 <;> cases o3 <;> first | (simp at h; done) | clear h
  all_goals
    go_enter Tryd.func38, Tryd.ntmps38
    go_wp2_with (first | (go_at_call 79; (refine (C.out.pre _).mono ?_); rintro e w0 ⟨rfl, rfl⟩) | (go_at_call 80; (refine (C.out.suf _).mono ?_); rintro e w0 ⟨rfl, rfl⟩) | (go_at_call 81; (refine (C.out.pair _ (HN.out.later (by go_grown))).mono ?_); rintro e w3 ⟨rfl, hb⟩; (have c0 : w3.cell? ⟨w.heap.size, 0, none⟩ = some (.int .i64 0) := cellB hb (by go_simp)); (have c1 : w3.cell? ⟨w.heap.size, 1, none⟩ = some (.int .i64 0) := cellB hb (by go_simp)); (have f0 : w3.frozen? ⟨w.heap.size, 0, none⟩ = false := (hb.frozen (p := ⟨w.heap.size, 0, none⟩) (by simp)).trans (by go_simp)); (have f1 : w3.frozen? ⟨w.heap.size, 1, none⟩ = false := (hb.frozen (p := ⟨w.heap.size, 1, none⟩) (by simp)).trans (by go_simp)); (have hz3 : w.heap.size < w3.heap.size := by have := hb.size; simp at this; omega); (have hB3 : Below w.heap.size w w3 := Below.trans (by go_grown) (hb.mono (by simp))); clear hb))
    exact bodyPost_ret (v := .tuple #[.agg #[.int .i64 0, .int .i64 0], .bool false]) (by simp [results, Tryd.results38, go_sem, *]) rfl ⟨rfl, by go_grown⟩

set_option maxHeartbeats 2000000 in
theorem iParse_star (t r1 r2 : ByteArray) (p s : Int) (w : World) (hC : CutsT t r1 r2 p s true true true) (hn : NumW w) (hg : (3 ≤ p ∧ p ≤ 60 ∧ 1 ≤ s ∧ s < p)) :
    Calls Tryd.prog 38 #[.string t] w fun e w' => e = .returned (.tuple #[.agg #[.int .i64 p, .int .i64 s], .bool true]) ∧ Below w.heap.size w w' := by
  have C := Lib.hid hC
  have HN := Lib.hid hn
  have HG := Lib.hid hg
  clear hC hn hg
  go_enter Tryd.func38, Tryd.ntmps38
  go_wp2_with (first | (go_at_call 79; (refine (C.out.pre _).mono ?_); rintro e w0 ⟨rfl, rfl⟩) | (go_at_call 80; (refine (C.out.suf _).mono ?_); rintro e w0 ⟨rfl, rfl⟩) | (go_at_call 81; (refine (C.out.pair _ (HN.out.later (by go_grown))).mono ?_); rintro e w3 ⟨rfl, hb⟩; (have c0 : w3.cell? ⟨w.heap.size, 0, none⟩ = some (.int .i64 0) := cellB hb (by go_simp)); (have c1 : w3.cell? ⟨w.heap.size, 1, none⟩ = some (.int .i64 0) := cellB hb (by go_simp)); (have f0 : w3.frozen? ⟨w.heap.size, 0, none⟩ = false := (hb.frozen (p := ⟨w.heap.size, 0, none⟩) (by simp)).trans (by go_simp)); (have f1 : w3.frozen? ⟨w.heap.size, 1, none⟩ = false := (hb.frozen (p := ⟨w.heap.size, 1, none⟩) (by simp)).trans (by go_simp)); (have hz3 : w.heap.size < w3.heap.size := by have := hb.size; simp at this; omega); (have hB3 : Below w.heap.size w w3 := Below.trans (by go_grown) (hb.mono (by simp))); clear hb) | (go_at_call 82; (refine (isStar_yes _ _ _ HG.out).mono ?_); rintro e w4 ⟨rfl, hb4⟩; (have d0 : w4.cell? ⟨w.heap.size, 0, none⟩ = some (.int .i64 0) := cellB hb4 (by go_simp)); (have d1 : w4.cell? ⟨w.heap.size, 1, none⟩ = some (.int .i64 0) := cellB hb4 (by go_simp)); (have d2 : w4.cell? ⟨w3.heap.size, 0, none⟩ = some (.int .i64 p) := cellB hb4 (by go_simp)); (have d3 : w4.cell? ⟨w3.heap.size, 1, none⟩ = some (.int .i64 s) := cellB hb4 (by go_simp)); (have f2 : w4.frozen? ⟨w.heap.size, 0, none⟩ = false := (hb4.frozen (p := ⟨w.heap.size, 0, none⟩) (by simp; omega)).trans (by go_simp)); (have f3 : w4.frozen? ⟨w.heap.size, 1, none⟩ = false := (hb4.frozen (p := ⟨w.heap.size, 1, none⟩) (by simp; omega)).trans (by go_simp)); (have hB4 : Below w.heap.size w w4 := by (refine Below.trans ?_ (hb4.mono (by simp; omega))); go_grown); (have hz4 : w3.heap.size < w4.heap.size := by have := hb4.size; simp at this; omega); clear hb4))
  exact bodyPost_ret (v := .tuple #[.agg #[.int .i64 p, .int .i64 s], .bool true]) (by simp [results, Tryd.results38, go_sem, *]) rfl ⟨rfl, by go_grown⟩

set_option maxHeartbeats 2000000 in
theorem iParse_bad (t r1 r2 : ByteArray) (p s : Int) (w : World) (hC : CutsT t r1 r2 p s true true true) (hn : NumW w) (hg : ¬ (3 ≤ p ∧ p ≤ 60 ∧ 1 ≤ s ∧ s < p)) :
    Calls Tryd.prog 38 #[.string t] w fun e w' => e = .returned (.tuple #[.agg #[.int .i64 0, .int .i64 0], .bool false]) ∧ Below w.heap.size w w' := by
  have C := Lib.hid hC
  have HN := Lib.hid hn
  have HG := Lib.hid hg
  clear hC hn hg
  go_enter Tryd.func38, Tryd.ntmps38
  go_wp2_with (first | (go_at_call 79; (refine (C.out.pre _).mono ?_); rintro e w0 ⟨rfl, rfl⟩) | (go_at_call 80; (refine (C.out.suf _).mono ?_); rintro e w0 ⟨rfl, rfl⟩) | (go_at_call 81; (refine (C.out.pair _ (HN.out.later (by go_grown))).mono ?_); rintro e w3 ⟨rfl, hb⟩; (have c0 : w3.cell? ⟨w.heap.size, 0, none⟩ = some (.int .i64 0) := cellB hb (by go_simp)); (have c1 : w3.cell? ⟨w.heap.size, 1, none⟩ = some (.int .i64 0) := cellB hb (by go_simp)); (have f0 : w3.frozen? ⟨w.heap.size, 0, none⟩ = false := (hb.frozen (p := ⟨w.heap.size, 0, none⟩) (by simp)).trans (by go_simp)); (have f1 : w3.frozen? ⟨w.heap.size, 1, none⟩ = false := (hb.frozen (p := ⟨w.heap.size, 1, none⟩) (by simp)).trans (by go_simp)); (have hz3 : w.heap.size < w3.heap.size := by have := hb.size; simp at this; omega); (have hB3 : Below w.heap.size w w3 := Below.trans (by go_grown) (hb.mono (by simp))); clear hb) | (go_at_call 82; (refine (isStar_no _ _ _ HG.out).mono ?_); rintro e w4 ⟨rfl, hb4⟩; (have d0 : w4.cell? ⟨w.heap.size, 0, none⟩ = some (.int .i64 0) := cellB hb4 (by go_simp)); (have d1 : w4.cell? ⟨w.heap.size, 1, none⟩ = some (.int .i64 0) := cellB hb4 (by go_simp)); (have d2 : w4.cell? ⟨w3.heap.size, 0, none⟩ = some (.int .i64 p) := cellB hb4 (by go_simp)); (have d3 : w4.cell? ⟨w3.heap.size, 1, none⟩ = some (.int .i64 s) := cellB hb4 (by go_simp)); (have f2 : w4.frozen? ⟨w.heap.size, 0, none⟩ = false := (hb4.frozen (p := ⟨w.heap.size, 0, none⟩) (by simp; omega)).trans (by go_simp)); (have f3 : w4.frozen? ⟨w.heap.size, 1, none⟩ = false := (hb4.frozen (p := ⟨w.heap.size, 1, none⟩) (by simp; omega)).trans (by go_simp)); (have hB4 : Below w.heap.size w w4 := by (refine Below.trans ?_ (hb4.mono (by simp; omega))); go_grown); (have hz4 : w3.heap.size < w4.heap.size := by have := hb4.size; simp at this; omega); clear hb4))
  exact bodyPost_ret (v := .tuple #[.agg #[.int .i64 0, .int .i64 0], .bool false]) (by simp [results, Tryd.results38, go_sem, *]) rfl ⟨rfl, by go_grown⟩

end Go.Proofs.YtbgcbokddldmkaaDoor
