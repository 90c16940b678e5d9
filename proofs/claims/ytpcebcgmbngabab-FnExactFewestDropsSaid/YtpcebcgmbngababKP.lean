/- The pairs of chords that cross: what is in a row of them. -/
import Derived.Test.YtpcebcgmbngababK5
namespace Go.Proofs.Ytpcebcgmbngabab
open Go.RowKit
set_option linter.unusedVariables false

theorem rowP_elems (xs : List (Int × Int)) (i : Nat) : ∀ j, ∀ r ∈ rowP xs i j, ∃ b : Nat, r = [(i : Int), (b : Int)] ∧ i < b ∧ b < j
  | 0, r, hr => by simp [rowP] at hr
  | j + 1, r, hr => by
    rw [rowP] at hr
    rcases List.mem_append.1 hr with h | h
    · obtain ⟨b, h1, h2, h3⟩ := rowP_elems xs i j r h
      exact ⟨b, h1, h2, by omega⟩
    · split at h
      · next hc =>
        simp at h
        exact ⟨j, h, hc.1, by omega⟩
      · simp at h

theorem allP_elems (xs : List (Int × Int)) : ∀ i, ∀ r ∈ allP xs i, ∃ a b : Nat, r = [(a : Int), (b : Int)] ∧ a < b ∧ b < xs.length
  | 0, r, hr => by simp [allP] at hr
  | i + 1, r, hr => by
    rw [allP] at hr
    rcases List.mem_append.1 hr with h | h
    · exact allP_elems xs i r h
    · obtain ⟨b, h1, h2, h3⟩ := rowP_elems xs i _ r h
      exact ⟨i, b, h1, h2, h3⟩

/-- A row of a slice of slices, of two numbers. -/
theorem RowsAt.pair {eo ei : TypeId} {w : World} {B T : Nat} {v : Value} {vs : List Value} {xss : List (List Int)} (h : RowsAt eo ei w B T v vs xss) {k : Nat} (hk : k < xss.length) {a b : Int} (hr : xss.getD k [] = [a, b]) :
    ∃ (gr cap : Nat), vs.getD k (.slice none 0 0) = .slice (some ⟨gr, 0, none⟩) 2 cap ∧ w.cell? ⟨gr, 0, none⟩ = some (.int .i64 a) ∧ w.cell? ⟨gr, 1, none⟩ = some (.int .i64 b) := by
  have h1 := h.rows k hk
  rw [hr] at h1
  obtain ⟨a0, cap, g, hv, h2, _, _, _, hc, _⟩ := h1.1.view
  rw [h2 (by simp)] at hv
  exact ⟨g, cap, hv, hc 0 (by simp), hc 1 (by simp)⟩

end Go.Proofs.Ytpcebcgmbngabab
