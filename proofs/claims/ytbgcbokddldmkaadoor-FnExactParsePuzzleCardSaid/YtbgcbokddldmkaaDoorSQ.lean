/- Stars that texts tell: the model's reader. -/
import Derived.Test.YtbgcbokddldmkaaDoorSM
import Derived.Test.YtbgcbokddldmkaaDoorSR
import Derived.Test.YtbgcbokddldmkaaDoorPT
import Derived.Deep.RegionHeld3
namespace Go.Proofs.YtbgcbokddldmkaaDoor
open Go.RowKit
set_option linter.unusedVariables false

set_option maxHeartbeats 1000000 in
theorem srParse_len (t : ByteArray) (w : World) (h : ¬ (5 ≤ (t.size : Int) ∧ (t.size : Int) ≤ 7)) :
    Calls Tryd.prog 78 #[.string t] w fun e w' => e = .returned (.tuple #[.agg #[.int .i64 0, .int .i64 0], .bool false]) ∧ Below w.heap.size w w' := by
  go_enter Tryd.func78, Tryd.ntmps78
  go_wp2_with (first | (go_at_call 61; (with_reducible refine (l1In_no _ _ _ _ h).mono ?_); rintro e w1 ⟨rfl, rfl⟩))
  exact bodyPost_ret (v := .tuple #[.agg #[.int .i64 0, .int .i64 0], .bool false]) (by simp [results, Tryd.results78, go_sem, *]) rfl ⟨rfl, by go_grown⟩

set_option maxHeartbeats 1000000 in
theorem srParse_first (t : ByteArray) (w : World) (h : 5 ≤ (t.size : Int) ∧ (t.size : Int) ≤ 7) (h0 : 0 < t.size) (z : Nat) (hz : (t[0]'h0).toNat = z) (hn : ¬ (z : Int) = 123) :
    Calls Tryd.prog 78 #[.string t] w fun e w' => e = .returned (.tuple #[.agg #[.int .i64 0, .int .i64 0], .bool false]) ∧ Below w.heap.size w w' := by
  go_enter Tryd.func78, Tryd.ntmps78
  go_wp2_with (first | (go_at_call 61; (with_reducible refine (l1In_yes _ _ _ _ h).mono ?_); rintro e w1 ⟨rfl, rfl⟩))
  exact bodyPost_ret (v := .tuple #[.agg #[.int .i64 0, .int .i64 0], .bool false]) (by simp [results, Tryd.results78, go_sem, *]) rfl ⟨rfl, by go_grown⟩

set_option maxHeartbeats 1000000 in
theorem srParse_last (t : ByteArray) (w : World) (h : 5 ≤ (t.size : Int) ∧ (t.size : Int) ≤ 7) (h0 : 0 < t.size) (hz : (t[0]'h0).toNat = 123) (m : Nat) (hm : (t.size : Int) - 1 = m) (hm1 : m < t.size) (y : Nat) (hy : (t[m]'hm1).toNat = y) (hn : ¬ (y : Int) = 125) :
    Calls Tryd.prog 78 #[.string t] w fun e w' => e = .returned (.tuple #[.agg #[.int .i64 0, .int .i64 0], .bool false]) ∧ Below w.heap.size w w' := by
  have e1 : IntKind.i64.wrap ((t.size : Int) - 1) = (m : Int) := by rw [IntKind.wrap_i64] <;> omega
  go_enter Tryd.func78, Tryd.ntmps78
  go_wp2_with (first | (go_at_call 61; (with_reducible refine (l1In_yes _ _ _ _ h).mono ?_); rintro e w1 ⟨rfl, rfl⟩))
  exact bodyPost_ret (v := .tuple #[.agg #[.int .i64 0, .int .i64 0], .bool false]) (by simp [results, Tryd.results78, go_sem, *]) rfl ⟨rfl, by go_grown⟩

set_option maxHeartbeats 1000000 in
theorem srParse_parts (t : ByteArray) (w : World) (h : 5 ≤ (t.size : Int) ∧ (t.size : Int) ≤ 7) (h0 : 0 < t.size) (hz : (t[0]'h0).toNat = 123) (m : Nat) (hm : (t.size : Int) - 1 = m) (hm1 : m < t.size) (hy : (t[m]'hm1).toNat = 125) (xs : List ByteArray) (HS : Hid (∀ W, Calls Tryd.prog 83 #[.string (t.extract 1 m), .int .u8 47] W fun e w' => ∃ v, e = .returned v ∧ Strs w' W.heap.size 9 v xs ∧ Below W.heap.size W w')) (hx : ¬ (xs.length : Int) = 2) (hpos : 0 < xs.length) :
    Calls Tryd.prog 78 #[.string t] w fun e w' => e = .returned (.tuple #[.agg #[.int .i64 0, .int .i64 0], .bool false]) ∧ Below w.heap.size w w' := by
  have e1 : IntKind.i64.wrap ((t.size : Int) - 1) = (m : Int) := by rw [IntKind.wrap_i64] <;> omega
  have HPOS := Lib.hid hpos
  clear hpos
  go_enter Tryd.func78, Tryd.ntmps78
  go_wp2_with (first | (go_at_call 61; (with_reducible refine (l1In_yes _ _ _ _ h).mono ?_); rintro e w1 ⟨rfl, rfl⟩) | (go_at_call 83; (refine (HS.out _).mono ?_); rintro e w1 ⟨v, rfl, hst, hb1⟩; obtain ⟨cap, g, rfl, hmax, hg1, hg2, hcc, hff⟩ := hst.view HPOS.out; (have c0 : w1.cell? ⟨w.heap.size, 0, none⟩ = some (.int .i64 0) := cellB hb1 (by go_simp)); (have c1 : w1.cell? ⟨w.heap.size, 1, none⟩ = some (.int .i64 0) := cellB hb1 (by go_simp)); (have f0 : w1.frozen? ⟨w.heap.size, 0, none⟩ = false := (hb1.frozen (p := ⟨w.heap.size, 0, none⟩) (by simp)).trans (by go_simp)); (have f1 : w1.frozen? ⟨w.heap.size, 1, none⟩ = false := (hb1.frozen (p := ⟨w.heap.size, 1, none⟩) (by simp)).trans (by go_simp)); (have hz1 : w.heap.size < w1.heap.size := by (have := hb1.size; simp at this; omega)); (have hB : Below w.heap.size w w1 := Below.trans (by go_grown) (hb1.mono (by simp))); clear hb1 hst hcc hff))
  exact bodyPost_ret (v := .tuple #[.agg #[.int .i64 0, .int .i64 0], .bool false]) (by simp [results, Tryd.results78, go_sem, *]) rfl ⟨rfl, by go_grown⟩

set_option maxHeartbeats 4000000 in
theorem srParse_star (t : ByteArray) (w : World) (h : 5 ≤ (t.size : Int) ∧ (t.size : Int) ≤ 7) (h0 : 0 < t.size) (hz : (t[0]'h0).toNat = 123) (m : Nat) (hm : (t.size : Int) - 1 = m) (hm1 : m < t.size) (hy : (t[m]'hm1).toNat = 125) (a b : ByteArray) (HS : Hid (∀ W, Calls Tryd.prog 83 #[.string (t.extract 1 m), .int .u8 47] W fun e w' => ∃ v, e = .returned v ∧ Strs w' W.heap.size 9 v [a, b] ∧ Below W.heap.size W w')) (p s : Int) (HA : Hid (∀ W, Calls Tryd.prog 84 #[.string a] W fun e w' => e = .returned (.int .i64 p) ∧ W = w')) (HBB : Hid (∀ W, Calls Tryd.prog 84 #[.string b] W fun e w' => e = .returned (.int .i64 s) ∧ W = w')) (hg : (3 ≤ p ∧ p ≤ 60 ∧ 1 ≤ s ∧ s < p)) :
    Calls Tryd.prog 78 #[.string t] w fun e w' => e = .returned (.tuple #[.agg #[.int .i64 p, .int .i64 s], .bool true]) ∧ Below w.heap.size w w' := by
  have e1 : IntKind.i64.wrap ((t.size : Int) - 1) = (m : Int) := by rw [IntKind.wrap_i64] <;> omega
  have HG := Lib.hid hg
  clear hg
  go_enter Tryd.func78, Tryd.ntmps78
  go_wp2_with (first | (go_at_call 61; (with_reducible refine (l1In_yes _ _ _ _ h).mono ?_); rintro e w1 ⟨rfl, rfl⟩) | (go_at_call 83; (refine (HS.out _).mono ?_); rintro e w1 ⟨v, rfl, hst, hb1⟩; obtain ⟨cap, g, rfl, hmax, hg1, hg2, hcc, hff⟩ := hst.view (by simp); (have x0 : w1.cell? ⟨g, 0, none⟩ = some (.string a) := hcc 0 (by simp)); (have x1 : w1.cell? ⟨g, 1, none⟩ = some (.string b) := hcc 1 (by simp)); (have c0 : w1.cell? ⟨w.heap.size, 0, none⟩ = some (.int .i64 0) := cellB hb1 (by go_simp)); (have c1 : w1.cell? ⟨w.heap.size, 1, none⟩ = some (.int .i64 0) := cellB hb1 (by go_simp)); (have f0 : w1.frozen? ⟨w.heap.size, 0, none⟩ = false := (hb1.frozen (p := ⟨w.heap.size, 0, none⟩) (by simp)).trans (by go_simp)); (have f1 : w1.frozen? ⟨w.heap.size, 1, none⟩ = false := (hb1.frozen (p := ⟨w.heap.size, 1, none⟩) (by simp)).trans (by go_simp)); (have hz1 : w.heap.size < w1.heap.size := by (have := hb1.size; simp at this; omega)); (have hB : Below w.heap.size w w1 := Below.trans (by go_grown) (hb1.mono (by simp))); clear hb1 hst hcc hff))
  go_region_held3 (fun w' => w'.cell? ⟨g, 0, none⟩ = some (.string a) ∧ w'.cell? ⟨g, 1, none⟩ = some (.string b)) (go_keep)
    (first
      | (go_at_call 84; (with_reducible refine (HA.out _).mono ?_); rintro e wa ⟨rfl, rfl⟩)
      | (go_at_call 84; (with_reducible refine (HBB.out _).mono ?_); rintro e wa ⟨rfl, rfl⟩))
  all_goals
    go_wp2_with (first | (go_at_call 112; (refine (srGood_yes _ _ _ HG.out).mono ?_); rintro e w2 ⟨rfl, hb2⟩; (have c0 : w2.cell? ⟨w.heap.size, 0, none⟩ = some (.int .i64 0) := cellB hb2 (by go_simp)); (have c1 : w2.cell? ⟨w.heap.size, 1, none⟩ = some (.int .i64 0) := cellB hb2 (by go_simp)); (have f0 : w2.frozen? ⟨w.heap.size, 0, none⟩ = false := (hb2.frozen (p := ⟨w.heap.size, 0, none⟩) (by simp; omega)).trans (by go_simp)); (have f1 : w2.frozen? ⟨w.heap.size, 1, none⟩ = false := (hb2.frozen (p := ⟨w.heap.size, 1, none⟩) (by simp; omega)).trans (by go_simp)); (have c2 : w2.cell? ⟨w1.heap.size, 0, none⟩ = some (.int .i64 p) := cellB hb2 (by go_simp)); (have c3 : w2.cell? ⟨w1.heap.size, 1, none⟩ = some (.int .i64 s) := cellB hb2 (by go_simp)); (have hz2 : w1.heap.size < w2.heap.size := by (have := hb2.size; simp at this; omega)); (have hB2 : Below w.heap.size w w2 := by (refine Below.trans ?_ (hb2.mono (by simp; omega))); go_grown); clear hb2))
    exact bodyPost_ret (v := .tuple #[.agg #[.int .i64 p, .int .i64 s], .bool true]) (by simp [results, Tryd.results78, go_sem, *]) rfl ⟨rfl, by go_grown⟩

set_option maxHeartbeats 4000000 in
theorem srParse_bad (t : ByteArray) (w : World) (h : 5 ≤ (t.size : Int) ∧ (t.size : Int) ≤ 7) (h0 : 0 < t.size) (hz : (t[0]'h0).toNat = 123) (m : Nat) (hm : (t.size : Int) - 1 = m) (hm1 : m < t.size) (hy : (t[m]'hm1).toNat = 125) (a b : ByteArray) (HS : Hid (∀ W, Calls Tryd.prog 83 #[.string (t.extract 1 m), .int .u8 47] W fun e w' => ∃ v, e = .returned v ∧ Strs w' W.heap.size 9 v [a, b] ∧ Below W.heap.size W w')) (p s : Int) (HA : Hid (∀ W, Calls Tryd.prog 84 #[.string a] W fun e w' => e = .returned (.int .i64 p) ∧ W = w')) (HBB : Hid (∀ W, Calls Tryd.prog 84 #[.string b] W fun e w' => e = .returned (.int .i64 s) ∧ W = w')) (hg : ¬ (3 ≤ p ∧ p ≤ 60 ∧ 1 ≤ s ∧ s < p)) :
    Calls Tryd.prog 78 #[.string t] w fun e w' => e = .returned (.tuple #[.agg #[.int .i64 0, .int .i64 0], .bool false]) ∧ Below w.heap.size w w' := by
  have e1 : IntKind.i64.wrap ((t.size : Int) - 1) = (m : Int) := by rw [IntKind.wrap_i64] <;> omega
  have HG := Lib.hid hg
  clear hg
  go_enter Tryd.func78, Tryd.ntmps78
  go_wp2_with (first | (go_at_call 61; (with_reducible refine (l1In_yes _ _ _ _ h).mono ?_); rintro e w1 ⟨rfl, rfl⟩) | (go_at_call 83; (refine (HS.out _).mono ?_); rintro e w1 ⟨v, rfl, hst, hb1⟩; obtain ⟨cap, g, rfl, hmax, hg1, hg2, hcc, hff⟩ := hst.view (by simp); (have x0 : w1.cell? ⟨g, 0, none⟩ = some (.string a) := hcc 0 (by simp)); (have x1 : w1.cell? ⟨g, 1, none⟩ = some (.string b) := hcc 1 (by simp)); (have c0 : w1.cell? ⟨w.heap.size, 0, none⟩ = some (.int .i64 0) := cellB hb1 (by go_simp)); (have c1 : w1.cell? ⟨w.heap.size, 1, none⟩ = some (.int .i64 0) := cellB hb1 (by go_simp)); (have f0 : w1.frozen? ⟨w.heap.size, 0, none⟩ = false := (hb1.frozen (p := ⟨w.heap.size, 0, none⟩) (by simp)).trans (by go_simp)); (have f1 : w1.frozen? ⟨w.heap.size, 1, none⟩ = false := (hb1.frozen (p := ⟨w.heap.size, 1, none⟩) (by simp)).trans (by go_simp)); (have hz1 : w.heap.size < w1.heap.size := by (have := hb1.size; simp at this; omega)); (have hB : Below w.heap.size w w1 := Below.trans (by go_grown) (hb1.mono (by simp))); clear hb1 hst hcc hff))
  go_region_held3 (fun w' => w'.cell? ⟨g, 0, none⟩ = some (.string a) ∧ w'.cell? ⟨g, 1, none⟩ = some (.string b)) (go_keep)
    (first
      | (go_at_call 84; (with_reducible refine (HA.out _).mono ?_); rintro e wa ⟨rfl, rfl⟩)
      | (go_at_call 84; (with_reducible refine (HBB.out _).mono ?_); rintro e wa ⟨rfl, rfl⟩))
  all_goals
    go_wp2_with (first | (go_at_call 112; (refine (srGood_no _ _ _ HG.out).mono ?_); rintro e w2 ⟨rfl, hb2⟩; (have c0 : w2.cell? ⟨w.heap.size, 0, none⟩ = some (.int .i64 0) := cellB hb2 (by go_simp)); (have c1 : w2.cell? ⟨w.heap.size, 1, none⟩ = some (.int .i64 0) := cellB hb2 (by go_simp)); (have f0 : w2.frozen? ⟨w.heap.size, 0, none⟩ = false := (hb2.frozen (p := ⟨w.heap.size, 0, none⟩) (by simp; omega)).trans (by go_simp)); (have f1 : w2.frozen? ⟨w.heap.size, 1, none⟩ = false := (hb2.frozen (p := ⟨w.heap.size, 1, none⟩) (by simp; omega)).trans (by go_simp)); (have c2 : w2.cell? ⟨w1.heap.size, 0, none⟩ = some (.int .i64 p) := cellB hb2 (by go_simp)); (have c3 : w2.cell? ⟨w1.heap.size, 1, none⟩ = some (.int .i64 s) := cellB hb2 (by go_simp)); (have hz2 : w1.heap.size < w2.heap.size := by (have := hb2.size; simp at this; omega)); (have hB2 : Below w.heap.size w w2 := by (refine Below.trans ?_ (hb2.mono (by simp; omega))); go_grown); clear hb2))
    exact bodyPost_ret (v := .tuple #[.agg #[.int .i64 0, .int .i64 0], .bool false]) (by simp [results, Tryd.results78, go_sem, *]) rfl ⟨rfl, by go_grown⟩

end Go.Proofs.YtbgcbokddldmkaaDoor
