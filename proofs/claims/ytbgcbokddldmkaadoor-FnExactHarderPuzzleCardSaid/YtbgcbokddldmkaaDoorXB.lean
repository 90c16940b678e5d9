/- All solutions, on both sides. -/
import Derived.Test.YtbgcbokddldmkaaDoorXA
namespace Go.Proofs.YtbgcbokddldmkaaDoor
open Go.RowKit
set_option linter.unusedVariables false

theorem info_star : (Tryd.prog.info? 55).map (fun i => (i.zero, i.size, i.bytes)) = some (some (.agg #[.int .i64 0, .int .i64 0]), 2, 16) := by kernel_rfl

/-! the closure of the program: does a star not fit a clue? -/
set_option maxHeartbeats 400000 in
theorem solFn (k a b : Int) (p s gs : Nat) (t : Bool) (w : World) (hc : clueP (k, a, b)) (h : 3 ≤ p ∧ p ≤ 14 ∧ 1 ≤ s ∧ s < p) (h0 : w.cell? ⟨gs, 0, none⟩ = some (.int .i64 (p : Int))) (h1 : w.cell? ⟨gs, 1, none⟩ = some (.int .i64 (s : Int))) (ht : (!fitZ (k, a, b) p s) = t) :
    Calls Tryd.prog 132 #[.agg #[.int .i64 k, .int .i64 a, .int .i64 b], .pointer (some ⟨gs, 0, none⟩)] w fun e w' => e = .returned (.bool t) ∧ Below w.heap.size w w' := by
  have e0 := cellB (w' := w.alloc (.cells #[.int .i64 k, .int .i64 a, .int .i64 b] 44)) (by go_grown) h0
  have e1 := cellB (w' := w.alloc (.cells #[.int .i64 k, .int .i64 a, .int .i64 b] 44)) (by go_grown) h1
  cases hf : fitZ (k, a, b) p s with
  | true =>
    rw [hf] at ht
    subst ht
    go_enter Tryd.func132, Tryd.ntmps132
    go_wp2_with (first | (go_at_call 133; (with_reducible refine (fits_any k a b p s true _ hc h hf).mono ?_); rintro e w1 ⟨rfl, hb1⟩))
    go_ret
    exact ⟨rfl, Below.trans (by go_grown) (hb1.mono (by first | (simp; done) | (simp; omega)))⟩
  | false =>
    rw [hf] at ht
    subst ht
    go_enter Tryd.func132, Tryd.ntmps132
    go_wp2_with (first | (go_at_call 133; (with_reducible refine (fits_any k a b p s false _ hc h hf).mono ?_); rintro e w1 ⟨rfl, hb1⟩))
    go_ret
    exact ⟨rfl, Below.trans (by go_grown) (hb1.mono (by first | (simp; done) | (simp; omega)))⟩

set_option maxHeartbeats 1000000 in
theorem sol_idx (u : Value) (xs : List Tri) (p s gs : Nat) (w : World) (hx : SrcT w u xs) (hP : puzzleP xs) (h : 3 ≤ p ∧ p ≤ 14 ∧ 1 ≤ s ∧ s < p) (h0 : w.cell? ⟨gs, 0, none⟩ = some (.int .i64 (p : Int))) (h1 : w.cell? ⟨gs, 1, none⟩ = some (.int .i64 (s : Int))) :
    Calls Tryd.prog 152 #[u, .func (.func 132) #[] #[.pointer (some ⟨gs, 0, none⟩)]] w fun e w' => ∃ r : Int, e = .returned (.int .i64 r) ∧ decide (0 ≤ r) = (!fitsZ xs p s) ∧ Below w.heap.size w w' := by
  obtain ⟨a0, cap, g, off, rfl, ha, hc1, hc2, hc⟩ := hx.form
  unfold maxLen at hc2
  have hl := hP.1
  have HP := Lib.hid hP.2
  have HC := Lib.hid hc
  have HA := Lib.hid ha
  have H0 := Lib.hid h0
  have H1 := Lib.hid h1
  clear hx hc ha hP h0 h1
  go_enter Tryd.func152, Tryd.ntmps152
  go_wp2
  go_loopw [8] (fun i wr => ∃ k : Nat, k ≤ xs.length ∧ i = .int .i64 k ∧ Hid (fitsZ (xs.take k) p s = true) ∧ Below w.heap.size w wr) (fun i _ => xs.length - (intOf i).toNat)
  case atStart => exact ⟨0, by omega, rfl, Lib.hid (by simp [fitsZ]), Below.refl _ _⟩
  case round =>
    obtain ⟨k, hk, rfl, HO, hB⟩ := hrel
    have hz := hB.size
    by_cases hlt : k < xs.length
    · obtain rfl := HA.out (by omega)
      obtain ⟨hx, hy, hzc⟩ := HC.out k hlt
      have cx := cellB hB hx
      have cy := cellB hB hy
      have cz := cellB hB hzc
      have g0 := cellB hB H0.out
      have g1 := cellB hB H1.out
      have hcl := HP.out k hlt
      have hst := fitsZ_step xs p s k hlt
      obtain ⟨x, y, z, hxy⟩ : ∃ x y z, xs.getD k noT = (x, y, z) := ⟨_, _, _, rfl⟩
      rw [hxy] at cx cy cz hcl hst
      simp only at cx cy cz
      rw [HO.out, Bool.true_and] at hst
      have HCL := Lib.hid hcl
      have i1 : 0 ≤ (k : Int) := by omega
      have i2 : (k : Int) < (xs.length : Int) := by omega
      have G0 := Lib.hid g0
      have G1 := Lib.hid g1
      clear hx hy hzc hxy hcl g0 g1
      cases hf : fitZ (x, y, z) p s with
      | true =>
        rw [hf] at hst
        have HST := Lib.hid hst
        have HF := Lib.hid hf
        clear hst hf
        go_wp2_with (first | (go_at_call 132; (refine (solFn x y z p s gs false _ HCL.out h G0.out G1.out (by rw [HF.out]; rfl)).mono ?_); rintro e w1 ⟨rfl, hb1⟩; have hB1 := hB.trans (hb1.mono hz)))
        go_roundw
        case rel => exact ⟨k + 1, by omega, by go_num, Lib.hid HST.out, hB1⟩
        case measure => simp [intOf]; omega
      | false =>
        have hall : fitsZ xs p s = false := by
          rw [hf] at hst
          unfold fitsZ at hst ⊢
          rw [List.all_eq_false] at hst ⊢
          obtain ⟨c, hc, hn⟩ := hst
          exact ⟨c, List.mem_of_mem_take hc, hn⟩
        have HALL := Lib.hid hall
        have HF := Lib.hid hf
        clear hst hf hall
        go_wp2_with (first | (go_at_call 132; (refine (solFn x y z p s gs true _ HCL.out h G0.out G1.out (by rw [HF.out]; rfl)).mono ?_); rintro e w1 ⟨rfl, hb1⟩; have hB1 := hB.trans (hb1.mono hz)))
        go_ret
        refine ⟨(k : Int), rfl, ?_, hB1⟩
        rw [HALL.out, decide_eq_true (show (0 : Int) ≤ (k : Int) by omega)]
        rfl
    · obtain rfl : k = xs.length := by omega
      have hall := HO.out
      rw [List.take_length] at hall
      have HALL := Lib.hid hall
      clear hall
      go_wp2
      go_ret
      exact ⟨-1, rfl, by rw [HALL.out]; rfl, hB⟩

set_option maxHeartbeats 400000 in
theorem sol_con (u : Value) (xs : List Tri) (p s gs : Nat) (t : Bool) (w : World) (hx : SrcT w u xs) (hP : puzzleP xs) (h : 3 ≤ p ∧ p ≤ 14 ∧ 1 ≤ s ∧ s < p) (h0 : w.cell? ⟨gs, 0, none⟩ = some (.int .i64 (p : Int))) (h1 : w.cell? ⟨gs, 1, none⟩ = some (.int .i64 (s : Int))) (ht : (!fitsZ xs p s) = t) :
    Calls Tryd.prog 131 #[u, .func (.func 132) #[] #[.pointer (some ⟨gs, 0, none⟩)]] w fun e w' => e = .returned (.bool t) ∧ Below w.heap.size w w' := by
  have HI := Lib.hid (sol_idx u xs p s gs w hx hP h h0 h1)
  have HT := Lib.hid ht
  obtain ⟨a0, cap, g, off, rfl, _⟩ := hx.form
  clear hx ht h0 h1
  go_enter Tryd.func131, Tryd.ntmps131
  go_wp2_with (first | (go_at_call 152; (refine (HI.out).mono ?_); rintro e w1 ⟨r, rfl, hr, hb1⟩; rw [HT.out] at hr; (have HR := Lib.hid hr); clear hr))
  go_ret
  exact ⟨by rw [← HR.out]; rfl, hb1⟩
end Go.Proofs.YtbgcbokddldmkaaDoor
