/- Texts parted at a byte: the parts are one, however they are found. Nothing of the program. -/
import Derived.Test.YtbgcbokddldmkaaDoorSL
import Derived.Test.YtbgcbokddldmkaaDoorDM
import Derived.Lib.SplitLaws
import Derived.Lib.Join
namespace Go.Proofs.YtbgcbokddldmkaaDoor

/-- No part bears the byte. -/
def FreeP (c : UInt8) (P : List (List UInt8)) : Prop := ∀ p ∈ P, p.all (fun x => x != c) = true

theorem join_more (p q : List UInt8) (r : List (List UInt8)) (sep : List UInt8) : Lib.join (p :: q :: r) sep = p ++ (sep ++ Lib.join (q :: r) sep) := by
  rw [Lib.join_cons, Lib.join_cons]
  simp [Lib.joinTail]

theorem free_head {c : UInt8} {p q x y : List UInt8} (hp : p.all (fun x => x != c) = true) (hq : q.all (fun x => x != c) = true) (h : p ++ c :: x = q ++ c :: y) : p = q ∧ x = y := by
  have h1 := cut_at (right := x) hp
  have h2 := cut_at (right := y) hq
  rw [h, h2] at h1
  simp only [Prod.mk.injEq] at h1
  exact ⟨h1.1.symm, h1.2.1.symm⟩

theorem not_free {c : UInt8} {p q x : List UInt8} (hp : p.all (fun x => x != c) = true) (h : p = q ++ c :: x) : False := by
  rw [h] at hp
  simp at hp

theorem parts_one {c : UInt8} : ∀ (P Q : List (List UInt8)), P ≠ [] → Q ≠ [] → FreeP c P → FreeP c Q → Lib.join P [c] = Lib.join Q [c] → P = Q
  | [], _, h, _, _, _, _ => absurd rfl h
  | _, [], _, h, _, _, _ => absurd rfl h
  | [p], [q], _, _, _, _, h => by rw [Lib.join_one, Lib.join_one] at h; rw [h]
  | [p], q :: q2 :: r, _, _, hP, hQ, h => by
    rw [Lib.join_one, join_more] at h
    exact (not_free (hP p (by simp)) h).elim
  | p :: p2 :: r, [q], _, _, hP, hQ, h => by
    rw [Lib.join_one, join_more] at h
    exact (not_free (hQ q (by simp)) h.symm).elim
  | p :: p2 :: r, q :: q2 :: r2, _, _, hP, hQ, h => by
    rw [join_more, join_more] at h
    obtain ⟨h1, h2⟩ := free_head (hP p (by simp)) (hQ q (by simp)) h
    rw [h1, parts_one (p2 :: r) (q2 :: r2) (by simp) (by simp) (fun x hx => hP x (by simp [hx])) (fun x hx => hQ x (by simp [hx])) h2]

theorem index_free {l : List UInt8} {c : UInt8} (h : Lib.index l [c] = -1) : l.all (fun x => x != c) = true := by
  rcases Lib.index_spec l [c] with ⟨_, h1⟩ | ⟨i, h1, _⟩
  · rw [List.all_eq_true]
    intro x hx
    rw [bne_iff_ne]
    rintro rfl
    obtain ⟨i, hi, rfl⟩ := List.getElem_of_mem hx
    have := h1 i (by omega)
    unfold Lib.occAt at this
    rw [List.drop_eq_getElem_cons hi] at this
    simp [List.isPrefixOf] at this
  · omega

theorem index_hit {l : List UInt8} {c : UInt8} {i : Nat} (h : Lib.index l [c] = i) : (l.take i).all (fun x => x != c) = true ∧ l = l.take i ++ c :: l.drop (i + 1) := by
  rcases Lib.index_spec l [c] with ⟨h1, _⟩ | ⟨j, h1, h2, h3, h4⟩
  · omega
  · obtain rfl : j = i := by omega
    have hc : Lib.cut l [c] = (l.take j, l.drop (j + 1), true) := by
      unfold Lib.cut
      rw [if_pos (by omega), h1, Int.toNat_natCast]
      rfl
    have := cut_parts (l := l) (c := c) (by rw [hc])
    rw [hc] at this
    refine ⟨?_, this⟩
    rw [List.all_eq_true]
    intro x hx
    rw [bne_iff_ne]
    rintro rfl
    obtain ⟨k, hk, hx2⟩ := List.getElem_of_mem hx
    simp only [List.length_take] at hk
    have := h4 k (by omega)
    unfold Lib.occAt at this
    rw [List.drop_eq_getElem_cons (by omega)] at this
    rw [List.getElem_take] at hx2
    simp [List.isPrefixOf, hx2] at this

theorem indexB_eq (s : ByteArray) (c : UInt8) : Lib.indexB s ⟨#[c]⟩ = Lib.index s.data.toList [c] := by
  rfl

theorem splitB_free (c : UInt8) : ∀ (k : Nat) (s : ByteArray), Lib.countB s ⟨#[c]⟩ = k → FreeP c ((Lib.splitB ⟨#[c]⟩ 0 k s).map (·.data.toList)) ∧ Lib.join ((Lib.splitB ⟨#[c]⟩ 0 k s).map (·.data.toList)) [c] = s.data.toList := by
  intro k
  induction k with
  | zero =>
    intro s hk
    rcases Lib.indexB_cases s ⟨#[c]⟩ with hix | ⟨i, hix, _⟩
    · refine ⟨?_, ?_⟩
      · intro p hp
        simp [Lib.splitB_zero] at hp
        subst hp
        exact index_free (by rw [← indexB_eq]; exact hix)
      · simp [Lib.splitB_zero, Lib.join_one]
    · have := Lib.countB_hit s ⟨#[c]⟩ i (Nat.le_refl 1) hix
      omega
  | succ k ih =>
    intro s hk
    rcases Lib.indexB_cases s ⟨#[c]⟩ with hix | ⟨i, hix, hroom⟩
    · rw [Lib.countB_miss s _ hix] at hk
      omega
    · have hc := Lib.countB_hit s ⟨#[c]⟩ i (Nat.le_refl 1) hix
      have h1 : (⟨#[c]⟩ : ByteArray).size = 1 := rfl
      rw [h1] at hc
      obtain ⟨f, j⟩ := ih (s.extract (i + 1) s.size) (by omega)
      obtain ⟨g1, g2⟩ := index_hit (l := s.data.toList) (c := c) (i := i) (by rw [← indexB_eq]; exact hix)
      rw [Lib.splitB_hit _ _ _ _ _ hix, h1, List.map_cons, Nat.add_zero]
      have e0 : (s.extract 0 i).data.toList = s.data.toList.take i := by rw [extract_list]; simp
      have e1 : (s.extract (i + 1) s.size).data.toList = s.data.toList.drop (i + 1) := by
        rw [extract_list, List.take_of_length_le]
        rw [List.length_drop, Array.length_toList]
        exact Nat.le_refl _
      refine ⟨?_, ?_⟩
      · intro p hp
        rcases List.mem_cons.1 hp with rfl | hp
        · rw [e0]; exact g1
        · exact f p hp
      · have hne : (Lib.splitB ⟨#[c]⟩ 0 k (s.extract (i + 1) s.size)).map (·.data.toList) ≠ [] := by
          intro e
          have := congrArg List.length e
          rw [List.length_map, Lib.splitB_all ⟨#[c]⟩ (Nat.le_refl 1) 0 k _ (by omega)] at this
          simp at this
        obtain ⟨q, r, hq⟩ : ∃ q r, (Lib.splitB ⟨#[c]⟩ 0 k (s.extract (i + 1) s.size)).map (·.data.toList) = q :: r := by
          cases h : (Lib.splitB ⟨#[c]⟩ 0 k (s.extract (i + 1) s.size)).map (·.data.toList) with
          | nil => exact absurd h hne
          | cons q r => exact ⟨q, r, rfl⟩
        rw [hq] at j ⊢
        rw [join_more, j, e0, e1]
        exact g2.symm

theorem join_flat (c : UInt8) (x : List UInt8) : ∀ P : List (List UInt8), Lib.join (P ++ [x]) [c] = (P.map (fun p => p ++ [c])).flatten ++ x
  | [] => by simp [Lib.join_one]
  | [p] => by
    rw [List.cons_append, List.nil_append, join_more, Lib.join_one]
    simp
  | p :: q :: r => by
    have ih := join_flat c x (q :: r)
    rw [List.cons_append] at ih
    rw [List.cons_append, List.cons_append, join_more, ih]
    simp

theorem partTo_free (t : ByteArray) (c : UInt8) : ∀ k, k ≤ t.size → FreeP c ((partTo t c.toNat k).1.map (·.data.toList)) ∧ ∀ i, (partTo t c.toNat k).2 ≤ i → i < k → t.data.toList.getD i 0 ≠ c
  | 0, _ => ⟨fun p hp => by simp [partTo] at hp, fun i _ h => by omega⟩
  | k + 1, hk => by
    obtain ⟨f, g⟩ := partTo_free t c k (by omega)
    have hl := (partTo_le t c.toNat k).1
    have hsz : t.data.toList.length = t.size := Array.length_toList
    rw [partTo]
    split
    · refine ⟨?_, fun i h1 h2 => by simp at h1; omega⟩
      intro p hp
      simp only [List.map_append, List.mem_append, List.map_cons, List.map_nil, List.mem_singleton] at hp
      rcases hp with hp | rfl
      · exact f p hp
      · rw [extract_list, List.all_eq_true]
        intro x hx
        obtain ⟨j, hj, rfl⟩ := List.getElem_of_mem hx
        simp only [List.length_take, List.length_drop] at hj
        rw [List.getElem_take, List.getElem_drop, bne_iff_ne]
        have := g ((partTo t c.toNat k).2 + j) (by omega) (by omega)
        rw [List.getD, List.getElem?_eq_getElem (by omega)] at this
        exact this
    · rename_i h
      refine ⟨f, fun i h1 h2 => ?_⟩
      by_cases e : i = k
      · rw [e]; exact fun e2 => h (by rw [e2])
      · exact g i h1 (by omega)

theorem partB2_free (t : ByteArray) (c : UInt8) : FreeP c ((partB2 t c.toNat).map (·.data.toList)) ∧ Lib.join ((partB2 t c.toNat).map (·.data.toList)) [c] = t.data.toList := by
  obtain ⟨f, g⟩ := partTo_free t c t.size (Nat.le_refl _)
  have hj := partTo_join t c t.size (Nat.le_refl _)
  have hl := (partTo_le t c.toNat t.size).1
  have hsz : t.data.toList.length = t.size := Array.length_toList
  unfold partB2
  rw [List.map_append, List.map_cons, List.map_nil]
  refine ⟨?_, ?_⟩
  · intro p hp
    rcases List.mem_append.1 hp with hp | hp
    · exact f p hp
    · simp only [List.mem_singleton] at hp
      subst hp
      rw [extract_list, List.all_eq_true]
      intro x hx
      obtain ⟨j, hj, rfl⟩ := List.getElem_of_mem hx
      simp only [List.length_take, List.length_drop] at hj
      rw [List.getElem_take, List.getElem_drop, bne_iff_ne]
      have := g ((partTo t c.toNat t.size).2 + j) (by omega) (by omega)
      rw [List.getD, List.getElem?_eq_getElem (by omega)] at this
      exact this
  · rw [join_flat, List.map_map]
    have e : ((partTo t c.toNat t.size).1.map ((fun p => p ++ [c]) ∘ (·.data.toList))).flatten = t.data.toList.take (partTo t c.toNat t.size).2 := hj
    have e2 : (t.data.toList.drop (partTo t c.toNat t.size).2).take (t.size - (partTo t c.toNat t.size).2) = t.data.toList.drop (partTo t c.toNat t.size).2 := List.take_of_length_le (by rw [List.length_drop]; omega)
    rw [e, extract_list, e2]
    exact List.take_append_drop _ _

theorem bytes_eq {P Q : List ByteArray} (h : P.map (·.data.toList) = Q.map (·.data.toList)) : P = Q := by
  induction P generalizing Q with
  | nil => cases Q with
    | nil => rfl
    | cons q Q => simp at h
  | cons p P ih => cases Q with
    | nil => simp at h
    | cons q Q =>
      simp only [List.map_cons, List.cons.injEq] at h
      obtain ⟨h1, h2⟩ := h
      rw [ih h2]
      congr 1
      exact ByteArray.ext (Array.toList_inj.1 h1)

/-- Parts that are free of the byte and give the text are those that the library gives. -/
theorem split_parts (s : ByteArray) (c : UInt8) (P : List ByteArray) (hne : P ≠ []) (hf : FreeP c (P.map (·.data.toList))) (hj : Lib.join (P.map (·.data.toList)) [c] = s.data.toList) : Lib.splitB ⟨#[c]⟩ 0 (Lib.countB s ⟨#[c]⟩) s = P := by
  obtain ⟨f, g⟩ := splitB_free c _ s rfl
  refine bytes_eq (parts_one _ _ ?_ ?_ f hf (g.trans hj.symm))
  · intro e
    have := congrArg List.length e
    rw [List.length_map, Lib.splitB_all ⟨#[c]⟩ (Nat.le_refl 1) 0 _ s rfl] at this
    simp at this
  · intro e
    rw [List.map_eq_nil_iff] at e
    exact hne e

theorem model_parts (s : ByteArray) (c : UInt8) (P : List ByteArray) (hne : P ≠ []) (hf : FreeP c (P.map (·.data.toList))) (hj : Lib.join (P.map (·.data.toList)) [c] = s.data.toList) : partB2 s c.toNat = P := by
  obtain ⟨f, g⟩ := partB2_free s c
  refine bytes_eq (parts_one _ _ ?_ ?_ f hf (g.trans hj.symm))
  · intro e
    rw [List.map_eq_nil_iff] at e
    have := (part_pos s c.toNat).1
    rw [e] at this
    simp at this
  · intro e
    rw [List.map_eq_nil_iff] at e
    exact hne e

end Go.Proofs.YtbgcbokddldmkaaDoor
