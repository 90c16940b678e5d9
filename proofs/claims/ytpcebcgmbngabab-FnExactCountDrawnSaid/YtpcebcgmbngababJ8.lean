/- Loops: interlaced letters, by both sides. -/
import Derived.Test.YtpcebcgmbngababJ7
import Derived.Test.YtpcebcgmbngababJ6
namespace Go.Proofs.Ytpcebcgmbngabab
open Go.RowKit
set_option linter.unusedVariables false

theorem letters_form {w : World} {B T n cap : Nat} {a0 : Option Addr} {ps : List (Nat × Nat)} (h : PairsIn 96 w B T (.slice a0 n cap) (pI ps)) (hn : 0 < ps.length) : ∃ g, a0 = some ⟨g, 0, none⟩ ∧ n = ps.length := by
  obtain ⟨a1, c1, g, e, ha, _⟩ := h.1.view
  rw [pI_length] at e ha
  cases e
  exact ⟨g, ha hn, rfl⟩

theorem letters_len {w : World} {B T n cap : Nat} {a0 : Option Addr} {ps : List (Nat × Nat)} (h : PairsIn 96 w B T (.slice a0 n cap) (pI ps)) : n = ps.length := by
  obtain ⟨a1, c1, g, e, ha, _⟩ := h.1.view
  rw [pI_length] at e
  cases e
  rfl

theorem letters_cells {w : World} {B T n cap g : Nat} {ps : List (Nat × Nat)} (h : PairsIn 96 w B T (.slice (some ⟨g, 0, none⟩) n cap) (pI ps)) (k : Nat) (hk : k < ps.length) :
    w.cell? ⟨g, k * 2, none⟩ = some (.int .i64 (ps.getD k (0, 0)).1) ∧ w.cell? ⟨g, k * 2 + 1, none⟩ = some (.int .i64 (ps.getD k (0, 0)).2) := by
  have c0 := h.1.cell0 k (by rw [pI_length]; exact hk)
  have c1 := h.1.cell1 k (by rw [pI_length]; exact hk)
  rw [pI_get] at c0 c1
  exact ⟨c0, c1⟩

set_option maxHeartbeats 2000000 in
theorem areInterlaced_any (a0 : Option Addr) (n cap : Nat) (ps : List (Nat × Nat)) (B T x y : Nat) (w : World) (h : PairsIn 96 w B T (.slice a0 n cap) (pI ps)) (hx : x < ps.length) (hy : y < ps.length) :
    Calls Try.prog 123 #[.slice a0 n cap, .int .i64 x, .int .i64 y] w fun e w' => e = .returned (.bool (lacedP ps x y)) ∧ Below w.heap.size w w' := by
  obtain ⟨g, rfl, rfl⟩ := letters_form h (by omega)
  obtain ⟨e1, e2⟩ := letters_cells h x hx
  obtain ⟨e3, e4⟩ := letters_cells h y hy
  have hval : lacedP ps x y = crossB (ps.getD x (0, 0)).1 (ps.getD x (0, 0)).2 (ps.getD y (0, 0)).1 (ps.getD y (0, 0)).2 := rfl
  obtain ⟨a, ha⟩ : ∃ a : Int, ((ps.getD x (0, 0)).1 : Int) = a := ⟨_, rfl⟩
  obtain ⟨b, hb⟩ : ∃ b : Int, ((ps.getD x (0, 0)).2 : Int) = b := ⟨_, rfl⟩
  obtain ⟨c, hc⟩ : ∃ c : Int, ((ps.getD y (0, 0)).1 : Int) = c := ⟨_, rfl⟩
  obtain ⟨d, hd⟩ : ∃ d : Int, ((ps.getD y (0, 0)).2 : Int) = d := ⟨_, rfl⟩
  rw [ha, hb, hc, hd] at hval
  rw [ha] at e1
  rw [hb] at e2
  rw [hc] at e3
  rw [hd] at e4
  rw [hval]
  have x0 : 0 ≤ (x : Int) := by omega
  have x1 : (x : Int) < (ps.length : Int) := by omega
  have y0 : 0 ≤ (y : Int) := by omega
  have y1 : (y : Int) < (ps.length : Int) := by omega
  clear h ha hb hc hd hval
  go_enter Try.func123, Try.ntmps123
  go_wp2
  go_region_held3 (fun w' => w'.cell? ⟨g, x * 2, none⟩ = some (.int .i64 a) ∧ w'.cell? ⟨g, x * 2 + 1, none⟩ = some (.int .i64 b) ∧ w'.cell? ⟨g, y * 2, none⟩ = some (.int .i64 c) ∧ w'.cell? ⟨g, y * 2 + 1, none⟩ = some (.int .i64 d)) (go_keep)
    (first | (go_at_call 121; (with_reducible refine (areInTurn_any a b c d _).mono ?_); rintro e w1 ⟨rfl, hb⟩; (have c0 : w1.cell? ⟨g, x * 2, none⟩ = some (.int .i64 a) := cellB hb (by first | assumption | go_simp)); (have c1 : w1.cell? ⟨g, x * 2 + 1, none⟩ = some (.int .i64 b) := cellB hb (by first | assumption | go_simp)); (have c2 : w1.cell? ⟨g, y * 2, none⟩ = some (.int .i64 c) := cellB hb (by first | assumption | go_simp)); (have c3 : w1.cell? ⟨g, y * 2 + 1, none⟩ = some (.int .i64 d) := cellB hb (by first | assumption | go_simp)); (have HBW : Hid (Below w.heap.size w w1) := Lib.hid (Below.trans (by go_grown) (hb.mono (by first | omega | (simp; done) | (simp; omega))))); clear hb))
  go_wp2
  go_ret
  exact ⟨rfl, by first | exact HBW.out | exact bdn HBW.out _⟩

theorem LoopP.size {t : ByteArray} {ps : List (Nat × Nat)} (h : LoopP t.data.toList ps) : t.size = 2 * ps.length := by rw [← tx_len]; exact h.len

end Go.Proofs.Ytpcebcgmbngabab
