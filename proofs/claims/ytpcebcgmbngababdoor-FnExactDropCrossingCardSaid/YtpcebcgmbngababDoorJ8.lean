/- Loops: interlaced letters, by both sides. -/
import Derived.Test.YtpcebcgmbngababDoorJ7
import Derived.Test.YtpcebcgmbngababDoorJ6
namespace Go.Proofs.YtpcebcgmbngababDoor
open Go.RowKit
set_option linter.unusedVariables false

theorem letters_form {w : World} {B T n cap : Nat} {a0 : Option Addr} {ps : List (Nat × Nat)} (h : PairsIn 38 w B T (.slice a0 n cap) (pI ps)) (hn : 0 < ps.length) : ∃ g, a0 = some ⟨g, 0, none⟩ ∧ n = ps.length := by
  obtain ⟨a1, c1, g, e, ha, _⟩ := h.1.view
  rw [pI_length] at e ha
  cases e
  exact ⟨g, ha hn, rfl⟩

theorem letters_len {w : World} {B T n cap : Nat} {a0 : Option Addr} {ps : List (Nat × Nat)} (h : PairsIn 38 w B T (.slice a0 n cap) (pI ps)) : n = ps.length := by
  obtain ⟨a1, c1, g, e, ha, _⟩ := h.1.view
  rw [pI_length] at e
  cases e
  rfl

theorem letters_cells {w : World} {B T n cap g : Nat} {ps : List (Nat × Nat)} (h : PairsIn 38 w B T (.slice (some ⟨g, 0, none⟩) n cap) (pI ps)) (k : Nat) (hk : k < ps.length) :
    w.cell? ⟨g, k * 2, none⟩ = some (.int .i64 (ps.getD k (0, 0)).1) ∧ w.cell? ⟨g, k * 2 + 1, none⟩ = some (.int .i64 (ps.getD k (0, 0)).2) := by
  have c0 := h.1.cell0 k (by rw [pI_length]; exact hk)
  have c1 := h.1.cell1 k (by rw [pI_length]; exact hk)
  rw [pI_get] at c0 c1
  exact ⟨c0, c1⟩

set_option maxHeartbeats 400000 in
theorem loLetter_some (t a : ByteArray) (n k : Nat) (w : World) (ht : t.size = 2 * n) (hn : n ≤ 8) (h : letK a n = some k) :
    Calls Tryd.prog 7 #[.string t, .string a] w fun e w' => e = .returned (.bool true) ∧ w = w' := by
  obtain ⟨h1, h2, h3⟩ := letK_some h
  obtain ⟨q, hq⟩ : ∃ q, (a.data.toList.getD 0 0).toNat = q := ⟨_, rfl⟩
  rw [hq] at h2
  have h0 : 0 < a.size := by omega
  have hq2 : (a[0]'h0).toNat = q := by rw [tx_get a 0 h0]; exact hq
  have ha : ((a.size : Int) == 1) = true := by rw [h1]; rfl
  have hw : IntKind.i64.wrap ((q : Int) - 97) = (q : Int) - 97 := by rw [IntKind.wrap_i64]; omega
  obtain ⟨m, hm⟩ : ∃ m, t.size = m := ⟨_, rfl⟩
  have hd : Int.tdiv (m : Int) 2 = (n : Int) := by rw [Int.tdiv_eq_ediv_of_nonneg (by omega)]; omega
  have hw2 : IntKind.i64.wrap (n : Int) = (n : Int) := by rw [IntKind.wrap_i64]; omega
  have hw3 : IntKind.i64.wrap ((n : Int) - 1) = (n : Int) - 1 := by rw [IntKind.wrap_i64]; omega
  have h02 : (0 : Int) < (a.size : Int) := by omega
  clear h1 hq ht h
  go_enter Tryd.func7, Tryd.ntmps7
  go_wp2_with (first | (go_at_call 13; (with_reducible refine (l1In_yes _ _ _ _ (by omega)).mono ?_); rintro e w1 ⟨rfl, rfl⟩))
  go_ret
  exact ⟨rfl, rfl⟩

set_option maxHeartbeats 400000 in
theorem loLetter_none (t a : ByteArray) (n : Nat) (w : World) (ht : t.size = 2 * n) (hn : n ≤ 8) (h : letK a n = none) :
    Calls Tryd.prog 7 #[.string t, .string a] w fun e w' => e = .returned (.bool false) ∧ w = w' := by
  rcases letK_none h with h1 | ⟨h1, h2⟩
  · have ha : ((a.size : Int) == 1) = false := beq_eq_false_iff_ne.2 (by omega)
    clear h h1 ht
    go_enter Tryd.func7, Tryd.ntmps7
    go_wp2
    go_ret
    exact ⟨rfl, rfl⟩
  · obtain ⟨q, hq⟩ : ∃ q, (a.data.toList.getD 0 0).toNat = q := ⟨_, rfl⟩
    rw [hq] at h2
    have q256 : q < 256 := by rw [← hq]; exact UInt8.toNat_lt _
    have h0 : 0 < a.size := by omega
    have hq2 : (a[0]'h0).toNat = q := by rw [tx_get a 0 h0]; exact hq
    have ha : ((a.size : Int) == 1) = true := by rw [h1]; rfl
    have hw : IntKind.i64.wrap ((q : Int) - 97) = (q : Int) - 97 := by rw [IntKind.wrap_i64]; omega
    obtain ⟨m, hm⟩ : ∃ m, t.size = m := ⟨_, rfl⟩
    have hd : Int.tdiv (m : Int) 2 = (n : Int) := by rw [Int.tdiv_eq_ediv_of_nonneg (by omega)]; omega
    have hw2 : IntKind.i64.wrap (n : Int) = (n : Int) := by rw [IntKind.wrap_i64]; omega
    have hw3 : IntKind.i64.wrap ((n : Int) - 1) = (n : Int) - 1 := by rw [IntKind.wrap_i64]; omega
    have h02 : (0 : Int) < (a.size : Int) := by omega
    have hx : ¬ (0 ≤ (q : Int) - 97 ∧ (q : Int) - 97 ≤ (n : Int) - 1) := by omega
    clear h1 hq ht h h2
    go_enter Tryd.func7, Tryd.ntmps7
    go_wp2_with (first | (go_at_call 13; (with_reducible refine (l1In_no _ _ _ _ hx).mono ?_); rintro e w1 ⟨rfl, rfl⟩))
    go_ret
    exact ⟨rfl, rfl⟩

theorem LoopP.size {t : ByteArray} {ps : List (Nat × Nat)} (h : LoopP t.data.toList ps) : t.size = 2 * ps.length := by rw [← tx_len]; exact h.len

end Go.Proofs.YtpcebcgmbngababDoor
