/- Times tables: points that are hit, factors by their fixed points. -/
import Derived.Test.YtincoaebdmikbaaT8
import Derived.Deep.RegionHeld3
namespace Go.Proofs.Ytincoaebdmikbaa
open Go.RowKit
set_option linter.unusedVariables false

set_option maxHeartbeats 400000 in
theorem l1Has_any (g n cap : Nat) (ys : List Int) (x : Int) (b : Bool) (w : World) (hl : ys.length = n) (hn : n ≤ 1000) (hc : ∀ i, i < n → w.cell? ⟨g, i, none⟩ = some (.int .i64 (ys.getD i 0))) (hb : ys.contains x = b) :
    Calls Try.prog 55 #[.slice (some ⟨g, 0, none⟩) n cap, .int .i64 x] w fun e w' => e = .returned (.bool b) ∧ w = w' := by
  have HC := Lib.hid hc
  have HL := Lib.hid hl
  have HB := Lib.hid hb
  clear hc hl hb
  go_enter Try.func55, Try.ntmps55
  go_wp2
  go_loop [9] (fun i => ∃ k : Nat, k ≤ n ∧ i = .int .i64 k ∧ Hid (∀ j, j < k → ys.getD j 0 ≠ x)) (fun i => n - (intOf i).toNat)
  case atStart => exact ⟨0, by omega, rfl, Lib.hid (fun j hj => absurd hj (by omega))⟩
  case round =>
    obtain ⟨k, hk, rfl, HN⟩ := hrel
    by_cases hlt : k < n
    · have cc := HC.out k hlt
      obtain ⟨y, hy⟩ : ∃ y, ys.getD k 0 = y := ⟨_, rfl⟩
      rw [hy] at cc
      have hlk : k < ys.length := by have := HL.out; omega
      by_cases he : y = x
      · have hbt : b = true := by
          rw [← HB.out, List.contains_iff_mem, ← he, ← hy, List.getD, List.getElem?_eq_getElem hlk]
          exact List.getElem_mem _
        subst hbt
        subst he
        clear hy hlk
        go_wp2
        go_ret
        exact ⟨rfl, rfl⟩
      · have hne : (y == x) = false := beq_eq_false_iff_ne.2 he
        have HN2 : Hid (∀ j, j < k + 1 → ys.getD j 0 ≠ x) := Lib.hid (fun j hj => by
          rcases Nat.lt_or_ge j k with h | h
          · exact HN.out j h
          · obtain rfl : j = k := by omega
            rw [hy]; exact he)
        clear hy he hlk
        go_wp2
        go_round
        case rel => exact ⟨k + 1, by omega, by go_num, HN2⟩
        case measure => simp [intOf]; omega
    · obtain rfl : k = n := by omega
      have hbf : b = false := by
        rw [← HB.out, Bool.eq_false_iff]
        intro hcon
        rw [List.contains_iff_mem] at hcon
        obtain ⟨j, hj, hx⟩ := List.getElem_of_mem hcon
        exact HN.out j (by have := HL.out; omega) (by rw [List.getD, List.getElem?_eq_getElem hj]; exact hx)
      subst hbf
      go_wp2
      go_ret
      exact ⟨rfl, rfl⟩

set_option maxHeartbeats 1000000 in
theorem facFn_any (p k q gp gq : Nat) (b : Bool) (w : World) (h : 3 ≤ p ∧ p ≤ 60) (hk : k < p) (cp : w.cell? ⟨gp, 0, none⟩ = some (.int .i64 p)) (cq : w.cell? ⟨gq, 0, none⟩ = some (.int .i64 q)) (hb : ((selT (fun x => x * k % p == x) p).length == q) = b) :
    Calls Try.prog 60 #[.int .i64 k, .pointer (some ⟨gp, 0, none⟩), .pointer (some ⟨gq, 0, none⟩)] w fun e w' => e = .returned (.bool b) ∧ Below w.heap.size w w' := by
  obtain ⟨m, hm⟩ : ∃ m, (selT (fun x => x * k % p == x) p).length = m := ⟨_, rfl⟩
  rw [hm] at hb
  have HM := Lib.hid hm
  have e1 : ((m : Int) == (q : Int)) = b := by
    rw [← hb, Bool.eq_iff_iff, beq_iff_eq, beq_iff_eq]
    omega
  clear hb hm
  go_enter Try.func60, Try.ntmps60
  go_wp2
  go_region_held3 (fun w' => w'.cell? ⟨gp, 0, none⟩ = some (.int .i64 p) ∧ w'.cell? ⟨gq, 0, none⟩ = some (.int .i64 q)) (go_keep)
    (first | (go_at_call 52; (refine (fixedPoints_any p k _ _ h hk (fun _ _ => rfl)).mono ?_); rintro e w1 ⟨v, rfl, hI, hb1⟩; obtain ⟨a1, c1, g1, rfl, _, _, _, _, _, _⟩ := hI.view; rw [HM.out]; clear hI; have q1 := cellB hb1 (b := gp) (o := 0) (x := .int .i64 p) (by first | assumption | go_simp); have q2 := cellB hb1 (b := gq) (o := 0) (x := .int .i64 q) (by first | assumption | go_simp); have hB1 : Below w.heap.size w w1 := Below.trans (by go_grown) (hb1.mono (by first | (simp; done) | omega | (simp; omega)))))
  go_wp2
  go_ret
  exact ⟨by first | rfl | simp, by first | exact hB1 | exact bdn hB1 _⟩

end Go.Proofs.Ytincoaebdmikbaa
