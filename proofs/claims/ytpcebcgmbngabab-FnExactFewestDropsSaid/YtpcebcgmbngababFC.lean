/- Masks: whether one holds a chord of each pair. -/
import Derived.Test.YtpcebcgmbngababFA
namespace Go.Proofs.Ytpcebcgmbngabab
open Go.RowKit
set_option linter.unusedVariables false

set_option maxHeartbeats 1000000 in
theorem holdsOne_end (m n N cap g : Nat) (a0 : Option Addr) (G C A B : Nat → Nat) (w : World) (hm : m < 4096) (hn : n ≤ 12) (hN : N ≤ 1000000) (hAB : ∀ k, k < N → A k < n ∧ B k < n) (ha0 : 0 < N → a0 = some ⟨g, 0, none⟩) (hrow : ∀ k, k < N → w.cell? ⟨g, k, none⟩ = some (.slice (some ⟨G k, 0, none⟩) 2 (C k))) (h0 : ∀ k, k < N → w.cell? ⟨G k, 0, none⟩ = some (.int .i64 (A k : Nat))) (h1 : ∀ k, k < N → w.cell? ⟨G k, 1, none⟩ = some (.int .i64 (B k : Nat))) (e : Nat) (b : Bool) (he : e ≤ N) (hok : ∀ k, k < e → (heldM m n (A k) || heldM m n (B k)) = true) (hend : (e = N ∧ b = true) ∨ (e < N ∧ b = false ∧ (heldM m n (A e) || heldM m n (B e)) = false)) :
    Calls Try.prog 75 #[.int .i64 m, .int .i64 n, .slice a0 N cap] w fun e w' => e = .returned (.bool b) ∧ Below w.heap.size w w' := by
  have HOK := Lib.hid hok
  have HE := Lib.hid hend
  have HR := Lib.hid hrow
  have H0 := Lib.hid h0
  have H1 := Lib.hid h1
  have HA := Lib.hid ha0
  have HAB := Lib.hid hAB
  clear hok hend hrow h0 h1 ha0 hAB
  go_enter Try.func75, Try.ntmps75
  go_wp2
  go_loopw [11] (fun i wr => ∃ k : Nat, k ≤ e ∧ i = .int .i64 k ∧ Below w.heap.size w wr) (fun i _ => e - (intOf i).toNat)
  case atStart => exact ⟨0, by omega, rfl, Below.refl _ _⟩
  case round =>
    obtain ⟨k, hk, rfl, hB⟩ := hrel
    by_cases hkN : k < N
    · obtain rfl := HA.out (by omega)
      have c := cellB hB (HR.out k hkN)
      have c0 := cellB hB (H0.out k hkN)
      have c1 := cellB hB (H1.out k hkN)
      obtain ⟨a1, b1⟩ := HAB.out k hkN
      have hda := fun W => isDropped_any m n (A k) W hm a1 hn
      have hdb := fun W => isDropped_any m n (B k) W hm b1 hn
      by_cases hlt : k < e
      · have hh := HOK.out k hlt
        cases ea : heldM m n (A k) with
        | true =>
          rw [ea] at hda
          have HDA := Lib.hid hda
          clear hda hdb hh ea
          go_wp2_with (first | (go_at_call 106; (with_reducible refine (HDA.out _).mono ?_); rintro e w1 ⟨rfl, rfl⟩))
          go_roundw
          case rel => exact ⟨k + 1, by omega, by go_num, hB⟩
          case measure => simp [intOf]; omega
        | false =>
          rw [ea, Bool.false_or] at hh
          rw [ea] at hda
          rw [hh] at hdb
          have HDA := Lib.hid hda
          have HDB := Lib.hid hdb
          clear hda hdb hh ea
          go_wp2_with (first | (go_at_call 106; (with_reducible refine (HDA.out _).mono ?_); rintro e w1 ⟨rfl, rfl⟩) | (go_at_call 106; (with_reducible refine (HDB.out _).mono ?_); rintro e w1 ⟨rfl, rfl⟩))
          go_roundw
          case rel => exact ⟨k + 1, by omega, by go_num, hB⟩
          case measure => simp [intOf]; omega
      · obtain rfl : k = e := by omega
        rcases HE.out with ⟨rfl, _⟩ | ⟨_, rfl, hh⟩
        · omega
        · rw [Bool.or_eq_false_iff] at hh
          rw [hh.1] at hda
          rw [hh.2] at hdb
          have HDA := Lib.hid hda
          have HDB := Lib.hid hdb
          clear hda hdb hh
          go_wp2_with (first | (go_at_call 106; (with_reducible refine (HDA.out _).mono ?_); rintro e w1 ⟨rfl, rfl⟩) | (go_at_call 106; (with_reducible refine (HDB.out _).mono ?_); rintro e w1 ⟨rfl, rfl⟩))
          go_ret
          exact ⟨rfl, hB⟩
    · obtain rfl : k = N := by omega
      rcases HE.out with ⟨_, rfl⟩ | ⟨h2, _, _⟩
      · go_wp2
        go_ret
        exact ⟨rfl, hB⟩
      · omega

end Go.Proofs.Ytpcebcgmbngabab
