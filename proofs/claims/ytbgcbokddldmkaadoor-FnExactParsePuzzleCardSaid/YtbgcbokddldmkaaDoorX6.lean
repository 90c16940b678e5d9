/- Clues that are none: the recovered door. -/
import Derived.Test.YtbgcbokddldmkaaDoorX5
namespace Go.Proofs.YtbgcbokddldmkaaDoor
open Go.RowKit
set_option linter.unusedVariables false

theorem assert_clue (v : Value) (w : World) : (Instr.typeAssert (.iface 44 v) 20 44 true).run Tryd.prog w = .ok (.tuple #[v, .bool true]) w := by kernel_rfl
theorem assert_none (w : World) : (Instr.typeAssert .nilIface 20 44 true).run Tryd.prog w = .ok (.tuple #[.agg #[.int .i64 0, .int .i64 0, .int .i64 0], .bool false]) w := by kernel_rfl

/-- The deferred closure, where the frame panics with a clue. -/
theorem refused_panicking (p : Addr) (x : Bool) (v : Value) (older : List PanicEntry) (w : World) (hc : w.cell? p = some (.bool x)) (hz : w.frozen? p = false) :
    CallsD Tryd.prog 128 #[.pointer (some p)] (.panicking ({ v := .iface 44 v, recovered := false } :: older)) w fun e u' w' =>
      e = .returned (.tuple #[]) ∧ u' = .panicking ({ v := .iface 44 v, recovered := true } :: older) ∧ w' = w.setCell p (.bool true) := by
  refine callsD_of_wpS Tryd.func128 rfl fun c₀ cs hu => ?_
  apply wpS_region
  simp [wpOpsS, go_sem, recoverD, hu, Tryd.ntmps128, hc, hz, bodyPostS, results, Tryd.results128, assert_clue]

/-- Where it returns. -/
theorem refused_idle (p : Addr) (x : Bool) (w : World) (hc : w.cell? p = some (.bool x)) (hz : w.frozen? p = false) :
    CallsD Tryd.prog 128 #[.pointer (some p)] .returning w fun e u' w' => e = .returned (.tuple #[]) ∧ u' = .returning ∧ w' = w.setCell p (.bool false) := by
  refine callsD_of_wpS Tryd.func128 rfl fun c₀ cs hu => ?_
  apply wpS_region
  simp [wpOpsS, go_sem, recoverD, hu, Tryd.ntmps128, hc, hz, bodyPostS, results, Tryd.results128, assert_none]
  cases c₀
  simp_all

set_option maxHeartbeats 2000000 in
theorem refused_any (u : Value) (xs : List Tri) (b : Bool) (w : World) (h : SrcT w u xs) (hn : xs.length ≤ 1000000000) (hW : ClueW w) (hb : b = true ↔ ∃ k, k < xs.length ∧ ¬ clueP (xs.getD k noT)) :
    Calls Tryd.prog 102 #[u] w fun e w' => e = .returned (.bool b) ∧ Below w.heap.size w w' := by
  have hmf : ∀ (fn : Fn) (first cap : Array Value) (w : World), (Instr.makeFunc fn first cap).run Tryd.prog w = .ok (.func fn first cap) w := fun _ _ _ _ => rfl
  obtain ⟨a0, cap, g, off, rfl, ha, hc1, hc2, hc⟩ := h.form
  unfold maxLen at hc2
  have HC := Lib.hid hc
  have HA := Lib.hid ha
  have HB := Lib.hid hb
  have HW := Lib.hid hW
  clear h hc ha hb hW
  go_enter_defers Tryd.func102, Tryd.ntmps102
  go_wp2
  go_loopw [8] (fun i wr => ∃ k : Nat, k ≤ xs.length ∧ i = .int .i64 k ∧ Hid (∀ j, j < k → clueP (xs.getD j noT)) ∧ Below w.heap.size w wr ∧ wr.cell? ⟨w.heap.size, 0, none⟩ = some (.bool false) ∧ wr.frozen? ⟨w.heap.size, 0, none⟩ = false) (fun i _ => xs.length - (intOf i).toNat)
  case atStart => exact ⟨0, by omega, rfl, Lib.hid (fun j hj => absurd hj (by omega)), by go_grown, by go_simp, by go_simp⟩
  case round =>
    obtain ⟨k, hk, rfl, HO, hB, hcell, hfr⟩ := hrel
    have hz := hB.size
    have hzz : w.heap.size < wr.heap.size := World.block_lt_of_cell? wr _ hcell
    by_cases hlt : k < xs.length
    · obtain rfl := HA.out (by omega)
      obtain ⟨hx, hy, hzc⟩ := HC.out k hlt
      have cx := cellB hB hx
      have cy := cellB hB hy
      have cz := cellB hB hzc
      obtain ⟨x, y, z, hxy⟩ : ∃ x y z, xs.getD k noT = (x, y, z) := ⟨_, _, _, rfl⟩
      rw [hxy] at cx cy cz
      simp only at cx cy cz
      have HXY := Lib.hid hxy
      have i1 : 0 ≤ (k : Int) := by omega
      have i2 : (k : Int) < (xs.length : Int) := by omega
      clear hx hy hzc hxy
      by_cases hok : clueP (x, y, z)
      · go_wp2_with (first | (go_at_call 129; (with_reducible refine (requireClue_yes x y z _ hok (HW.out.later (Below.trans hB (by go_grown)))).mono ?_); rintro e w1 ⟨rfl, hb1⟩; (have hb2 : Below wr.heap.size wr w1 := Below.trans (by go_grown) (hb1.mono (by simp))); have d1 := cellB hb2 hcell; (have d2 := (hb2.frozen (p := ⟨w.heap.size, 0, none⟩) hzz).trans hfr); have hB2 := hB.trans (hb2.mono hz)))
        go_roundw
        case rel =>
          refine ⟨k + 1, by omega, by go_num, Lib.hid (fun j hj => ?_), hB2, d1, d2⟩
          rcases Nat.lt_or_eq_of_le (Nat.le_of_lt_succ hj) with h | rfl
          · exact HO.out j h
          · rw [HXY.out]; exact hok
        case measure => simp [intOf]; omega
      · have hb1 : b = true := HB.out.2 ⟨k, hlt, by rw [HXY.out]; exact hok⟩
        subst hb1
        go_wp2_with (first | (go_at_call 129; (with_reducible refine (requireClue_no x y z _ hok (HW.out.later (Below.trans hB (by go_grown)))).mono ?_); rintro e w1 ⟨rfl, hb1⟩; (have hb2 : Below wr.heap.size wr w1 := Below.trans (by go_grown) (hb1.mono (by simp))); have d1 := cellB hb2 hcell; (have d2 := (hb2.frozen (p := ⟨w.heap.size, 0, none⟩) hzz).trans hfr); have hB2 := hB.trans (hb2.mono hz)))
        have hB3 := hB2.setC ⟨w.heap.size, 0, none⟩ (.bool true) (Nat.le_refl _)
        refine leaves_cons (f := 128) (args := #[.pointer (some ⟨w.heap.size, 0, none⟩)]) (by simp) (by simp [go_sem]) ?_
        refine (refused_panicking ⟨w.heap.size, 0, none⟩ false _ [] _ d1 d2).mono ?_
        rintro e u' w'' ⟨rfl, rfl, rfl⟩
        simp [Leaves, settle, results, Tryd.results102, go_sem, d1, hB3]
    · obtain rfl : k = xs.length := by omega
      have hb1 : b = false := by
        cases b with
        | false => rfl
        | true =>
          obtain ⟨j, hj, hno⟩ := HB.out.1 rfl
          exact absurd (HO.out j hj) hno
      subst hb1
      go_wp2
      have c3 : (wr.setCell ⟨w.heap.size, 0, none⟩ (.bool false)).cell? ⟨w.heap.size, 0, none⟩ = some (.bool false) := by simp [go_sem, hcell]
      have f3 : (wr.setCell ⟨w.heap.size, 0, none⟩ (.bool false)).frozen? ⟨w.heap.size, 0, none⟩ = false := by simp [go_sem, hfr]
      have hB3 := (hB.setC ⟨w.heap.size, 0, none⟩ (.bool false) (Nat.le_refl _)).setC ⟨w.heap.size, 0, none⟩ (.bool false) (Nat.le_refl _)
      obtain ⟨wq, hwq⟩ : ∃ wq, wr.setCell ⟨w.heap.size, 0, none⟩ (.bool false) = wq := ⟨_, rfl⟩
      rw [hwq] at c3 f3 hB3 ⊢
      refine leaves_cons (f := 128) (args := #[.pointer (some ⟨w.heap.size, 0, none⟩)]) (by simp) (by simp [go_sem]) ?_
      refine (refused_idle ⟨w.heap.size, 0, none⟩ false _ c3 f3).mono ?_
      rintro e u' w'' ⟨rfl, rfl, rfl⟩
      simp [Leaves, settle, results, Tryd.results102, go_sem, c3, hB3]
end Go.Proofs.YtbgcbokddldmkaaDoor
