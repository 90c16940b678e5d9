/- Slices of strings that a call made itself; texts parted at a byte. Nothing of the program. -/
import Derived.Test.YtbgcbokddldmkaaDoorBA
namespace Go.Proofs.YtbgcbokddldmkaaDoor
open Go.RowKit

/-- The slice v, made since the heap had B blocks, holds the strings xs. -/
def Strs (w : World) (B : Nat) (e : TypeId) (v : Value) (xs : List ByteArray) : Prop := w.ownsRow B e 1 v xs.length (xs.map Value.string)

theorem Strs.view {w : World} {B : Nat} {e : TypeId} {v : Value} {xs : List ByteArray} (h : Strs w B e v xs) (hn : 0 < xs.length) :
    ∃ (cap g : Nat), v = .slice (some ⟨g, 0, none⟩) xs.length cap ∧ xs.length ≤ maxLen ∧ B ≤ g ∧ g < w.heap.size ∧
      (∀ i, i < xs.length → w.cell? ⟨g, i, none⟩ = some (.string (xs.getD i ⟨#[]⟩))) ∧ (∀ i, w.frozen? ⟨g, i, none⟩ = false) := by
  have h0 := h
  obtain ⟨hl, h1 | ⟨g, cap, cur, hv, hB, hg, hn2, hm, hs, ht⟩⟩ := h0
  · omega
  · subst hv
    refine ⟨cap, g, rfl, by omega, hB, (Array.getElem?_eq_some_iff.1 hg).1, fun i hi => ?_, fun i => World.ownsRow.frozenAt h i⟩
    rw [World.ownsRow.cellAt h i (by omega)]
    simp [List.getElem?_map, List.getElem?_eq_getElem hi, List.getD]

theorem Strs.later {w w' : World} {B : Nat} {e : TypeId} {v : Value} {xs : List ByteArray} (h : Strs w B e v xs) (hb : Below w.heap.size w w') : Strs w' B e v xs :=
  World.ownsRow.kept h (Below.by hb) (by cases hv : v.ownBlock with | none => exact .inl rfl | some k => exact .inr (by simp))

theorem Strs.mono {w : World} {B B' : Nat} {e : TypeId} {v : Value} {xs : List ByteArray} (h : Strs w B e v xs) (hb : B' ≤ B) : Strs w B' e v xs := World.ownsRow.mono h hb

theorem Strs.own {w : World} {B : Nat} {e : TypeId} {v : Value} {xs : List ByteArray} (h : Strs w B e v xs) : ∀ k, v.ownBlock = some k → B ≤ k ∧ k < w.heap.size := World.ownsRow.lt h

theorem Strs.below {w0 w w' : World} {B : Nat} {e : TypeId} {v : Value} {xs : List ByteArray} (h : Strs w B e v xs) (hb : Below B w0 w) (hB : B ≤ w.heap.size) (hg : w.grownBy w' v.ownBlock) : Below B w0 w' :=
  hb.grown hg hB fun k hk => (h.own k hk).1

/-- 'append(out, y)' onto strings of the call's own. -/
theorem wpList_append_str {P : Program} {wr : World} {ops : Array Oper} {rest : List Oper} {o : Oper} {a : Act} {Q : Exit → Act → World → Prop} (hgd : o.guard = none) (s x : Operand) (t : TypeId)
    (ho : o.op = .call { callee := .builtin .append, args := #[s, x], argTypes := #[t, t] }) (base : Nat) (e : TypeId) (ht : P.underlying t = some (.slice e))
    (hi : (P.info? e).map (fun i => (i.zero, i.size, i.bytes)) = some (some (.string ⟨#[]⟩), 1, 16)) (v : Value) (xs : List ByteArray) (hs : a.eval s = v) (hI : Strs wr base e v xs) (y : ByteArray)
    (hx : a.eval x = .slice (some ⟨wr.heap.size, 0, none⟩) 1 1) (hn : xs.length < 10000000) (hbase : base ≤ wr.heap.size)
    (h : ∀ v' w', Strs w' base e v' (xs ++ [y]) → wr.grownBy w' v.ownBlock → wpList P ops Q rest (a.put o.dst v') w') :
    wpList P ops Q (o :: rest) a (wr.alloc (.cells #[.string y] e)) := by
  obtain ⟨i, hi, hz0, hz1, hz2⟩ := info_parts hi
  refine wpList_append_own _ hgd s x t ho base e i (.string ⟨#[]⟩) 1 16 ht hi hz0 hz1 hz2 rfl (by decide) v xs.length _ hs (World.ownsRow.alloc hI _) ⟨wr.heap.size, 0, none⟩ 1 1 [.string y] hx rfl ?_ ?_ (by unfold maxLen; omega) (by omega) (by simp; omega) ?_
  · exact cell_one_new _ _ _
  · intro u hu
    simp at hu
    subst hu
    rfl
  · intro v' w' h1 h2 _
    refine h v' w' ?_ (grownBy_trans (World.grownBy_alloc _ _ _) h2)
    have e1 : (xs ++ [y]).length = xs.length + 1 := by simp
    unfold Strs
    rw [e1, List.map_append]
    exact h1

/-- The parts of the first k bytes, and where the last one begins. -/
def partTo (t : ByteArray) (c : Nat) : Nat → List ByteArray × Nat
  | 0 => ([], 0)
  | k + 1 => if (t.data.toList.getD k 0).toNat = c then ((partTo t c k).1 ++ [t.extract (partTo t c k).2 k], k + 1) else partTo t c k

def partB2 (t : ByteArray) (c : Nat) : List ByteArray := (partTo t c t.size).1 ++ [t.extract (partTo t c t.size).2 t.size]

theorem partTo_le (t : ByteArray) (c : Nat) : ∀ k, (partTo t c k).2 ≤ k ∧ (partTo t c k).1.length ≤ k
  | 0 => by simp [partTo]
  | k + 1 => by
    have ih := partTo_le t c k
    rw [partTo]
    split
    · simp; omega
    · omega

theorem extract_list (t : ByteArray) (i j : Nat) : (t.extract i j).data.toList = (t.data.toList.drop i).take (j - i) := by
  rw [ByteArray.data_extract, Array.toList_extract, List.extract_eq_take_drop]

/-- The parts, each with its byte behind it, one after the other. -/
theorem partTo_join (t : ByteArray) (c : UInt8) : ∀ k, k ≤ t.size → ((partTo t c.toNat k).1.map (fun p => p.data.toList ++ [c])).flatten = t.data.toList.take (partTo t c.toNat k).2
  | 0, _ => by simp [partTo]
  | k + 1, hk => by
    have ih := partTo_join t c k (by omega)
    have hl := (partTo_le t c.toNat k).1
    have hsz : t.data.toList.length = t.size := Array.length_toList
    rw [partTo]
    split
    · rename_i h
      simp only [List.map_append, List.flatten_append, ih, List.map_cons, List.map_nil, List.flatten_cons, List.flatten_nil, List.append_nil]
      rw [extract_list, List.take_add_one (i := k), List.getElem?_eq_getElem (by omega)]
      rw [List.getD, List.getElem?_eq_getElem (by omega)] at h
      have e : t.data.toList[k]'(by omega) = c := UInt8.toNat_inj.1 h
      rw [e, ← List.append_assoc]
      congr 1
      rw [← List.drop_take, show List.take (partTo t c.toNat k).2 t.data.toList = List.take (partTo t c.toNat k).2 (List.take k t.data.toList) by rw [List.take_take, Nat.min_eq_left hl]]
      exact List.take_append_drop _ _
    · exact ih

theorem part_two {t a b : ByteArray} {c : UInt8} (h : partB2 t c.toNat = [a, b]) : t.data.toList = a.data.toList ++ c :: b.data.toList := by
  unfold partB2 at h
  have hj := partTo_join t c t.size (Nat.le_refl _)
  have hl := (partTo_le t c.toNat t.size).1
  have hsz : t.data.toList.length = t.size := Array.length_toList
  generalize partTo t c.toNat t.size = q at h hj hl
  obtain ⟨q1, q2⟩ := q
  have hq1 : q1.length = 1 := by
    have := congrArg List.length h
    simpa using this
  obtain ⟨x, rfl⟩ : ∃ x, q1 = [x] := List.length_eq_one_iff.1 hq1
  · simp at h
    obtain ⟨rfl, rfl⟩ := h
    simp at hj
    rw [extract_list, List.take_of_length_le (by rw [List.length_drop]; omega)]
    have := List.take_append_drop q2 t.data.toList
    rw [← hj] at this
    simpa using this.symm

theorem partTo_none (t : ByteArray) (c : Nat) : ∀ k, (∀ i, i < k → (t.data.toList.getD i 0).toNat ≠ c) → partTo t c k = ([], 0)
  | 0, _ => rfl
  | k + 1, h => by
    rw [partTo, if_neg (h k (by omega)), partTo_none t c k fun i hi => h i (by omega)]

theorem partTo_same (t : ByteArray) (c m : Nat) : ∀ k, (∀ i, m ≤ i → i < m + k → (t.data.toList.getD i 0).toNat ≠ c) → partTo t c (m + k) = partTo t c m
  | 0, _ => rfl
  | k + 1, h => by
    rw [← Nat.add_assoc, partTo, if_neg (h (m + k) (by omega) (by omega)), partTo_same t c m k fun i h1 h2 => h i h1 (by omega)]

theorem part_at {t : ByteArray} {a b : List UInt8} {c : UInt8} (h : t.data.toList = a ++ c :: b) (ha : a.all (fun x => x != c) = true) (hb : b.all (fun x => x != c) = true) : partB2 t c.toNat = [⟨a.toArray⟩, ⟨b.toArray⟩] := by
  have hsz : t.data.toList.length = t.size := Array.length_toList
  have hs : t.size = a.length + 1 + b.length := by rw [← hsz, h]; simp; omega
  rw [List.all_eq_true] at ha hb
  have g1 : partTo t c.toNat a.length = ([], 0) := partTo_none t _ _ fun i hi => by
    rw [h, List.getD, List.getElem?_append_left hi, List.getElem?_eq_getElem hi]
    exact fun e => (bne_iff_ne.1 (ha _ (List.getElem_mem hi))) (UInt8.toNat_inj.1 e)
  have g2 : partTo t c.toNat (a.length + 1) = ([t.extract 0 a.length], a.length + 1) := by
    rw [partTo, g1, if_pos (by rw [h, List.getD, List.getElem?_append_right (Nat.le_refl _)]; simp)]
    rfl
  have g3 : partTo t c.toNat t.size = ([t.extract 0 a.length], a.length + 1) := by
    rw [hs, partTo_same t _ _ _ ?_, g2]
    intro i h1 h2
    have h3 : i - (a.length + 1) < b.length := by omega
    rw [h, List.getD, List.getElem?_append_right (by omega), show i - a.length = (i - (a.length + 1)) + 1 by omega, List.getElem?_cons_succ, List.getElem?_eq_getElem h3]
    exact fun e => (bne_iff_ne.1 (hb _ (List.getElem_mem h3))) (UInt8.toNat_inj.1 e)
  have e1 : t.extract 0 a.length = ⟨a.toArray⟩ := by
    apply ByteArray.ext
    apply Array.toList_inj.1
    rw [extract_list, h]
    simp
  have e2 : t.extract (a.length + 1) t.size = ⟨b.toArray⟩ := by
    apply ByteArray.ext
    apply Array.toList_inj.1
    rw [extract_list, h, hs]
    rw [show a ++ c :: b = (a ++ [c]) ++ b by simp, List.drop_left' (by simp)]
    rw [List.take_of_length_le (by omega)]
  unfold partB2
  rw [g3, e1, e2]
  rfl

theorem part_pos (t : ByteArray) (c : Nat) : 0 < (partB2 t c).length ∧ (partB2 t c).length ≤ t.size + 1 := by
  have := (partTo_le t c t.size).2
  unfold partB2
  simp; omega

end Go.Proofs.YtbgcbokddldmkaaDoor
