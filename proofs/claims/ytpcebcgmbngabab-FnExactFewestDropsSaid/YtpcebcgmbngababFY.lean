/- Fewest chords to drop: the model. -/
import Derived.Test.YtpcebcgmbngababFE
import Derived.Test.YtpcebcgmbngababK7
import Derived.Test.YtpcebcgmbngababA1
import Derived.Test.YtpcebcgmbngababBL
namespace Go.Proofs.Ytpcebcgmbngabab
open Go.RowKit
set_option linter.unusedVariables false

set_option maxHeartbeats 1000000 in
theorem l1HasE_any (v : Value) (ys : List Int) (x : Int) (B : Nat) (e : TypeId) (w : World) (h : Ints w B e v ys) (hn : ys.length ≤ 1000) :
    Calls Try.prog 100 #[v, .int .i64 x] w fun e' w' => e' = .returned (.bool (ys.contains x)) ∧ w = w' := by
  obtain ⟨a0, cap, g, rfl, ha, _, _, _, hc, _⟩ := h.view
  obtain ⟨b, hb⟩ : ∃ b, ys.contains x = b := ⟨_, rfl⟩
  obtain ⟨n, hl⟩ : ∃ n, ys.length = n := ⟨_, rfl⟩
  rw [hl] at ha hc hn ⊢
  rw [hb]
  have HA := Lib.hid ha
  have HC := Lib.hid hc
  have HL := Lib.hid hl
  have HB := Lib.hid hb
  clear hc hl hb h ha
  go_enter Try.func100, Try.ntmps100
  go_wp2
  go_loop [9] (fun i => ∃ k : Nat, k ≤ n ∧ i = .int .i64 k ∧ Hid (∀ j, j < k → ys.getD j 0 ≠ x)) (fun i => n - (intOf i).toNat)
  case atStart => exact ⟨0, by omega, rfl, Lib.hid (fun j hj => absurd hj (by omega))⟩
  case round =>
    obtain ⟨k, hk, rfl, HN⟩ := hrel
    by_cases hlt : k < n
    · obtain rfl := HA.out (by omega)
      have cc := HC.out k hlt
      obtain ⟨y, hy⟩ : ∃ y, ys.getD k 0 = y := ⟨_, rfl⟩
      rw [hy] at cc
      have hlk : k < ys.length := by have := HL.out; omega
      by_cases he : y = x
      · have hbt : b = true := by
          rw [← HB.out, List.contains_iff_mem, ← he, ← hy, List.getD, List.getElem?_eq_getElem hlk]
          exact List.getElem_mem _
        subst hbt
        subst he
        clear hy hlk
        go_wp2
        go_ret
        exact ⟨rfl, rfl⟩
      · have hne : (y == x) = false := beq_eq_false_iff_ne.2 he
        have HN2 : Hid (∀ j, j < k + 1 → ys.getD j 0 ≠ x) := Lib.hid (fun j hj => by
          rcases Nat.lt_or_ge j k with h | h
          · exact HN.out j h
          · obtain rfl : j = k := by omega
            rw [hy]; exact he)
        clear hy he hlk
        go_wp2
        go_round
        case rel => exact ⟨k + 1, by omega, by go_num, HN2⟩
        case measure => simp [intOf]; omega
    · obtain rfl : k = n := by omega
      have hbf : b = false := by
        rw [← HB.out, Bool.eq_false_iff]
        intro hcon
        rw [List.contains_iff_mem] at hcon
        obtain ⟨j, hj, hx⟩ := List.getElem_of_mem hcon
        exact HN.out j (by have := HL.out; omega) (by rw [List.getD, List.getElem?_eq_getElem hj]; exact hx)
      subst hbf
      go_wp2
      go_ret
      exact ⟨rfl, rfl⟩

theorem l1OwnE_any (v : Value) (ys : List Int) (B : Nat) (w : World) (h : Ints w B 3 v ys) (hn : ys.length ≤ 1000) :
    Calls Try.prog 101 #[v] w fun e w' => ∃ v', e = .returned v' ∧ Ints w' w.heap.size 3 v' ys ∧ Below w.heap.size w w' := by
  have H := Lib.hid h
  obtain ⟨a0, cap, rfl⟩ := h.opened
  have HB0 := Lib.hid (Ints.boxed w w.heap.size 3 [] (Nat.le_refl _) (by simp))
  clear h
  go_enter Try.func101, Try.ntmps101
  go_wp2_with (at_builtin; refine wpList_append_own_ints rfl _ _ 39 rfl (w.heap.size) 3 Try.underlying39 info_int _ [] rfl HB0.out B 3 _ ys rfl (H.out.later (by go_grown)) (by simp; omega) (by simp) ?_; intro v' w' hI hg; have hb' := HB0.out.below (show Below w.heap.size w _ from by go_grown) (by simp) hg)
  go_ret
  exact ⟨v', rfl, hI, hb'⟩

end Go.Proofs.Ytpcebcgmbngabab
