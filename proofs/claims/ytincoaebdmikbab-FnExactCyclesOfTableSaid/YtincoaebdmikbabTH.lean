/- Cycles of tables: one cycle, the least of its points. -/
import Derived.Test.YtincoaebdmikbabTG
namespace Go.Proofs.Ytincoaebdmikbab
open Go.RowKit
set_option linter.unusedVariables false

theorem RowAt.kept {w w' : World} {B g p f : Nat} {e : TypeId} {v : Value} {xs : List Int} (hr : RowAt w g p f) (h : Ints w B e v xs) (hg : w.grownBy w' v.ownBlock) (hB : g < B) : RowAt w' g p f :=
  (hg.block g hr.lt (fun e => by have := (h.own g e.symm).1; omega)).trans hr

set_option maxHeartbeats 4000000 in
set_option maxRecDepth 100000 in
theorem cycleFrom_any (p f q n : Nat) (w : World) (h : 3 ≤ p ∧ p ≤ 60) (hf : f < p) (hq : q < p) (hn1 : 1 ≤ n) (hn2 : n ≤ p) (hb : itrT p f q n = q) (hd : ∀ i, 1 ≤ i → i < n → itrT p f q i ≠ q) :
    Calls Try.prog 35 #[.agg (rowV p f p), .int .i64 q] w (GivesT w (pathT p f q n)) := by
  have HQ := Lib.hid hb
  have HD := Lib.hid hd
  have hp0 : 0 < p := by omega
  clear hb hd
  go_enter Try.func35, Try.ntmps35
  go_wp2
  refine wp_scope_jumps 0 (fun a' wr => ∃ (k : Nat) (v : Value) (u7 u8 u9 u10 u11 u12 u13 u14 u15 u16 u17 u18 : Value), a' = { tmps := #[.agg (rowV p f p), .int .i64 q, .pointer (some ⟨w.heap.size, 0, none⟩), undef, .slice none 0 0, v, .int .i64 (itrT p f q k : Nat), u7, u8, u9, u10, u11, u12, u13, u14, u15, u16, u17, u18], defers := [] } ∧ 1 ≤ k ∧ k < n ∧ Ints wr (w.heap.size + 1) 3 v (pathT p f q k) ∧ Hid (RowAt wr w.heap.size p f) ∧ Below w.heap.size w wr ∧ w.heap.size + 1 ≤ wr.heap.size) (fun a' _ => match a'.tmps.getD 5 undef with | .slice _ m _ => n - m | _ => 0) rfl ?_ ?_
  · go_wp2
    go_step3
    obtain ⟨y, hy⟩ : ∃ y, itrT p f q (0 + 1) = y := ⟨_, rfl⟩
    have hyl : y < p := by rw [← hy]; exact itrT_lt p f q _ hp0 hq
    have x0 : q < p := hq
    have hxy : q * f % p = y := hy
    have HXY := Lib.hid hxy
    obtain ⟨wr, hwr⟩ : ∃ wr, wr = (w.alloc (.cells (rowV p f p) 45)) := ⟨_, rfl⟩
    have HRK : Hid (RowAt wr w.heap.size p f) := Lib.hid (by rw [hwr]; exact RowAt.new w p f)
    have hB : Below w.heap.size w wr := by rw [hwr]; go_grown
    have HI := Lib.hid (show Ints wr (w.heap.size + 1) 3 (.slice none 0 0) (pathT p f q 0) from World.ownsRow_nil _ _ _ _)
    have hz : w.heap.size + 1 ≤ wr.heap.size := by rw [hwr]; simp
    rw [← hwr]
    clear hwr
    have HS := Lib.hid (show pathT p f q 0 ++ [((q : Nat) : Int)] = pathT p f q 1 from pathT_succ p f q 0)
    have HP := Lib.hid (pathT_length p f q 0)
    have HIY := Lib.hid hy
    by_cases hlt : 0 + 1 < n
    · have e1 : ((y : Int) != (q : Int)) = true := bne_iff_ne.2 (fun e => HD.out (0 + 1) (by omega) hlt (by rw [HIY.out]; omega))
      have e2 : ((y : Int) == (q : Int)) = false := beq_eq_false_iff_ne.2 (fun e => HD.out (0 + 1) (by omega) hlt (by rw [HIY.out]; omega))
      clear hy
      go_wp2_with (first | (at_builtin; refine wpList_append_int rfl _ _ 40 rfl (w.heap.size + 1) 3 Try.underlying40 info_int _ _ rfl HI.out ((q : Nat) : Int) rfl (by rw [HP.out]; omega) (by first | omega | (simp; done) | (simp; omega)) ?_; intro v' w' hI' hg'; rw [HS.out] at hI'; have HR' := Lib.hid (HRK.out.kept HI.out hg' (Nat.lt_succ_self _)); have hB' := (HI.out.mono (Nat.le_succ w.heap.size)).below hB (by omega) hg'; (have hz' : w.heap.size + 1 ≤ w'.heap.size := by (have := hg'.size; omega)); have HI' := Lib.hid hI'; have cR := HR'.out.cell q x0; rw [HXY.out] at cR; clear hI' hg' hB hz))
      go_step3
      exact ⟨rfl, 1, v', _, _, _, _, _, _, _, _, _, _, _, _, by rw [HIY.out], by omega, by omega, HI'.out, HR', hB', hz'⟩
    · obtain hn1 : n = 0 + 1 := by omega
      have hyq : y = q := by rw [← hy, ← hn1]; exact HQ.out
      have e1 : ((y : Int) != (q : Int)) = false := by rw [hyq]; simp
      have e2 : ((y : Int) == (q : Int)) = true := by rw [hyq]; simp
      have HN1 := Lib.hid hn1
      clear hy hyq hn1
      go_wp2_with (first | (at_builtin; refine wpList_append_int rfl _ _ 40 rfl (w.heap.size + 1) 3 Try.underlying40 info_int _ _ rfl HI.out ((q : Nat) : Int) rfl (by rw [HP.out]; omega) (by first | omega | (simp; done) | (simp; omega)) ?_; intro v' w' hI' hg'; rw [HS.out] at hI'; have HR' := Lib.hid (HRK.out.kept HI.out hg' (Nat.lt_succ_self _)); have hB' := (HI.out.mono (Nat.le_succ w.heap.size)).below hB (by omega) hg'; (have hz' : w.heap.size + 1 ≤ w'.heap.size := by (have := hg'.size; omega)); have HI' := Lib.hid hI'; have cR := HR'.out.cell q x0; rw [HXY.out] at cR; clear hI' hg' hB hz))
      (try simp only [Exit.jump])
      go_ret
      exact ⟨_, rfl, by rw [HN1.out]; exact HI'.out.mono (Nat.le_succ _), hB'⟩
  · rintro a' wr ⟨k, v, u7, u8, u9, u10, u11, u12, u13, u14, u15, u16, u17, u18, rfl, hk1, hk2, hI, HRK, hB, hz⟩
    obtain ⟨a0, c0, g0, rfl, _, _, _, _, _, _⟩ := hI.view
    have HI := Lib.hid hI
    clear hI
    obtain ⟨y, hy⟩ : ∃ y, itrT p f q (k + 1) = y := ⟨_, rfl⟩
    have hyl : y < p := by rw [← hy]; exact itrT_lt p f q _ hp0 hq
    obtain ⟨x, hx⟩ : ∃ x, x = itrT p f q k := ⟨_, rfl⟩
    have x0 : x < p := by rw [hx]; exact itrT_lt p f q _ hp0 hq
    have HXY := Lib.hid (show x * f % p = y by rw [hx, ← hy]; rfl)
    have HS := Lib.hid (show pathT p f q k ++ [((x : Nat) : Int)] = pathT p f q (k + 1) by rw [hx, pathT_succ])
    have HP := Lib.hid (pathT_length p f q k)
    have HIY := Lib.hid hy
    have HX := Lib.hid hx
    rw [← hx]
    clear hx
    by_cases hlt : k + 1 < n
    · have e1 : ((y : Int) != (q : Int)) = true := bne_iff_ne.2 (fun e => HD.out (k + 1) (by omega) hlt (by rw [HIY.out]; omega))
      have e2 : ((y : Int) == (q : Int)) = false := beq_eq_false_iff_ne.2 (fun e => HD.out (k + 1) (by omega) hlt (by rw [HIY.out]; omega))
      clear hy
      go_wp2_with (first | (at_builtin; refine wpList_append_int rfl _ _ 40 rfl (w.heap.size + 1) 3 Try.underlying40 info_int _ _ rfl HI.out ((x : Nat) : Int) rfl (by rw [HP.out]; omega) (by first | omega | (simp; done) | (simp; omega)) ?_; intro v' w' hI' hg'; rw [HS.out] at hI'; have HR' := Lib.hid (HRK.out.kept HI.out hg' (Nat.lt_succ_self _)); have hB' := (HI.out.mono (Nat.le_succ w.heap.size)).below hB (by omega) hg'; (have hz' : w.heap.size + 1 ≤ w'.heap.size := by (have := hg'.size; omega)); have HI' := Lib.hid hI'; have cR := HR'.out.cell x x0; rw [HXY.out] at cR; clear hI' hg' hB hz))
      go_step3
      refine ⟨rfl, ⟨k + 1, v', _, _, _, _, _, _, _, _, _, _, _, _, by rw [HIY.out], by omega, by omega, HI'.out, HR', hB', hz'⟩, ?_⟩
      obtain ⟨_, _, _, rfl, _⟩ := HI'.out.view
      simp [pathT_length]
      omega
    · obtain hn1 : n = k + 1 := by omega
      have hyq : y = q := by rw [← hy, ← hn1]; exact HQ.out
      have e1 : ((y : Int) != (q : Int)) = false := by rw [hyq]; simp
      have e2 : ((y : Int) == (q : Int)) = true := by rw [hyq]; simp
      have HN1 := Lib.hid hn1
      clear hy hyq hn1
      go_wp2_with (first | (at_builtin; refine wpList_append_int rfl _ _ 40 rfl (w.heap.size + 1) 3 Try.underlying40 info_int _ _ rfl HI.out ((x : Nat) : Int) rfl (by rw [HP.out]; omega) (by first | omega | (simp; done) | (simp; omega)) ?_; intro v' w' hI' hg'; rw [HS.out] at hI'; have HR' := Lib.hid (HRK.out.kept HI.out hg' (Nat.lt_succ_self _)); have hB' := (HI.out.mono (Nat.le_succ w.heap.size)).below hB (by omega) hg'; (have hz' : w.heap.size + 1 ≤ w'.heap.size := by (have := hg'.size; omega)); have HI' := Lib.hid hI'; have cR := HR'.out.cell x x0; rw [HXY.out] at cR; clear hI' hg' hB hz))
      (try simp only [Exit.jump])
      go_ret
      exact ⟨_, rfl, by rw [HN1.out]; exact HI'.out.mono (Nat.le_succ _), hB'⟩

end Go.Proofs.Ytincoaebdmikbab
