/- Parts of texts: lengths, lists. -/
import Derived.Test.YtbgcbokddldmkaaDoorLA
import Derived.Test.YtbgcbokddldmkaaDoorSX
namespace Go.Proofs.YtbgcbokddldmkaaDoor
open Go.RowKit
set_option linter.unusedVariables false

theorem size_pos_ne {s : ByteArray} (h : 0 < s.size) : s.toList.isEmpty = false := by
  rw [ByteArray.toList_eq]
  cases e : s.data.toList with
  | nil =>
    have := size_list s
    rw [e] at this
    have h2 : s.size = 0 := this
    omega
  | cons x r => rfl

theorem size_zero {s : ByteArray} (h : ¬ 0 < s.size) : s = ⟨#[]⟩ := by
  apply ByteArray.ext
  apply Array.toList_inj.1
  have := size_list s
  rw [List.eq_nil_of_length_eq_zero (by omega : s.data.toList.length = 0)]

theorem part_le {c : UInt8} {s : ByteArray} {P : List ByteArray} (hj : Lib.join (P.map (·.data.toList)) [c] = s.data.toList) (k : Nat) (hk : k < P.length) : (P.getD k ⟨#[]⟩).size ≤ s.size := by
  have main : ∀ (Q : List (List UInt8)) (i : Nat) (hi : i < Q.length), (Q[i]).length ≤ (Lib.join Q [c]).length := by
    intro Q
    induction Q with
    | nil => intro i hi; simp at hi
    | cons p r ih =>
      intro i hi
      cases r with
      | nil =>
        rw [Lib.join_one]
        simp at hi
        subst hi
        simp
      | cons q r =>
        rw [join_more]
        cases i with
        | zero => simp
        | succ i =>
          have := ih i (by simpa using hi)
          simp at this ⊢
          omega
  have := main (P.map (·.data.toList)) k (by simpa using hk)
  rw [hj] at this
  rw [List.getD, List.getElem?_eq_getElem hk, size_list, size_list s]
  simpa using this

theorem parts_le {c : UInt8} {s : ByteArray} {P : List ByteArray} (hj : Lib.join (P.map (·.data.toList)) [c] = s.data.toList) : P.length ≤ s.size + 1 := by
  have main : ∀ (Q : List (List UInt8)), Q.length ≤ (Lib.join Q [c]).length + 1 := by
    intro Q
    induction Q with
    | nil => simp
    | cons p r ih =>
      cases r with
      | nil => simp
      | cons q r =>
        rw [join_more]
        simp at ih ⊢
        omega
  have := main (P.map (·.data.toList))
  rw [hj, List.length_map, ← size_list] at this
  exact this

theorem map_range {xs : List (Int × Int)} : (List.range xs.length).map (fun k => xs.getD k (0, 0)) = xs := by
  apply List.ext_getElem?
  intro i
  by_cases h : i < xs.length
  · simp [h, List.getD]
  · simp [h]

theorem first_no (g : Nat → Bool) : ∀ n, (∀ k, k < n → g k = true) ∨ ∃ m, m < n ∧ g m = false ∧ ∀ k, k < m → g k = true
  | 0 => .inl fun k hk => by omega
  | n + 1 => by
    rcases first_no g n with h | ⟨m, h1, h2, h3⟩
    · cases e : g n with
      | true =>
        refine .inl fun k hk => ?_
        by_cases hkn : k = n
        · rw [hkn]; exact e
        · exact h k (by omega)
      | false => exact .inr ⟨n, by omega, e, h⟩
    · exact .inr ⟨m, by omega, h2, h3⟩

end Go.Proofs.YtbgcbokddldmkaaDoor
