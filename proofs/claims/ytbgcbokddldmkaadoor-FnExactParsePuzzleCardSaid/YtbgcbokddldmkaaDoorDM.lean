/- Texts with a mark before, a mark behind and one between: cut, and put together. Nothing of the program. -/
import Derived.Test.YtbgcbokddldmkaaDoorDN
namespace Go.Proofs.YtbgcbokddldmkaaDoor

theorem cut_parts {l : List UInt8} {c : UInt8} (h : (Lib.cut l [c]).2.2 = true) : l = (Lib.cut l [c]).1 ++ c :: (Lib.cut l [c]).2.1 := by
  unfold Lib.cut at h ⊢
  split at h
  · rename_i hi
    rw [if_pos hi]
    rcases Lib.index_spec l [c] with ⟨h1, _⟩ | ⟨i, h1, h2, h3, _⟩
    · omega
    · rw [h1, Int.toNat_natCast]
      simp only [List.length_singleton]
      unfold Lib.occAt at h3
      cases hd : l.drop i with
      | nil => rw [hd] at h3; simp [List.isPrefixOf] at h3
      | cons x r =>
        rw [hd] at h3
        simp [List.isPrefixOf] at h3
        subst h3
        have e : l.drop (i + 1) = r := by
          have := congrArg (List.drop 1) hd
          rw [List.drop_drop] at this
          simpa using this
        rw [e, ← hd, List.take_append_drop]
  · cases h

theorem cut_at {left right : List UInt8} {c : UInt8} (h : left.all (fun x => x != c) = true) : Lib.cut (left ++ c :: right) [c] = (left, right, true) := by
  have hi : Lib.index (left ++ c :: right) [c] = (left.length : Int) := by
    refine Lib.index_first (i := left.length) (by simp) (by simp [Lib.occAt, List.isPrefixOf]) fun j hj => ?_
    unfold Lib.occAt
    rw [List.drop_append_of_le_length (by omega), List.drop_eq_getElem_cons hj]
    rw [List.all_eq_true] at h
    have := h left[j] (List.getElem_mem hj)
    simp only [List.cons_append, List.isPrefixOf, Bool.and_true]
    rw [beq_eq_false_iff_ne]
    exact fun e => (bne_iff_ne.1 this) e.symm
  unfold Lib.cut
  rw [if_pos (by rw [hi]; omega), hi, Int.toNat_natCast]
  simp

theorem pre_parts {l : List UInt8} {c : UInt8} (h : Lib.hasPrefix l [c] = true) : l = c :: Lib.trimPrefix l [c] := by
  unfold Lib.trimPrefix
  rw [if_pos h]
  unfold Lib.hasPrefix at h
  cases l with
  | nil => simp [List.isPrefixOf] at h
  | cons x r =>
    simp [List.isPrefixOf] at h
    subst h
    rfl

theorem pre_at (c : UInt8) (r : List UInt8) : Lib.hasPrefix (c :: r) [c] = true ∧ Lib.trimPrefix (c :: r) [c] = r := by
  have h : Lib.hasPrefix (c :: r) [c] = true := by simp [Lib.hasPrefix, List.isPrefixOf]
  exact ⟨h, by unfold Lib.trimPrefix; rw [if_pos h]; rfl⟩

theorem suf_parts {l : List UInt8} {c : UInt8} (h : Lib.hasSuffix l [c] = true) : l = Lib.trimSuffix l [c] ++ [c] := by
  unfold Lib.trimSuffix
  rw [if_pos h]
  unfold Lib.hasSuffix at h
  rw [List.isSuffixOf_iff_suffix] at h
  obtain ⟨r, hr⟩ := h
  subst hr
  simp

theorem suf_at (c : UInt8) (r : List UInt8) : Lib.hasSuffix (r ++ [c]) [c] = true ∧ Lib.trimSuffix (r ++ [c]) [c] = r := by
  have h : Lib.hasSuffix (r ++ [c]) [c] = true := by
    unfold Lib.hasSuffix
    rw [List.isSuffixOf_iff_suffix]
    exact ⟨r, rfl⟩
  exact ⟨h, by unfold Lib.trimSuffix; rw [if_pos h]; simp⟩

/-- The text of a star. -/
def starL (p s : Nat) : List UInt8 := 123 :: (dec2 p ++ 47 :: (dec2 s ++ [125]))

theorem dec2_not47 (n : Nat) (h : n < 100) : (dec2 n).all (fun x => x != 47) = true := (dec2_no47 ⟨n, h⟩).1

end Go.Proofs.YtbgcbokddldmkaaDoor
