/- Slices of slices of integers that a call made itself. Nothing of the program. -/
import Derived.Test.YtlkehdjfmmghjabB4
namespace Go.Proofs.Ytlkehdjfmmghjab
open Go.RowKit

theorem quiet2 {P : Program} {f : FuncId} {args : Array Value} {w : World} {q n : Nat} {v : Value}
    (h : Calls P f args (w.drewN (q + n)) fun e w' => e = .returned v ∧ ∃ m, w' = (w.drewN (q + n)).drewN m) : Calls P f args (w.drewN (q + n)) fun e w'' => e = .returned v ∧ ∃ m, w'' = w.drewN (q + m) :=
  h.mono fun _ _ ⟨he, m, hm⟩ => ⟨he, n + m, by rw [hm, World.drewN_drewN, Nat.add_assoc]⟩

theorem IntsIn.ints {e : TypeId} {w : World} {B T : Nat} {v : Value} {xs : List Int} (h : IntsIn e w B T v xs) : Ints w B e v xs := h.1

/-- The outer slice v holds the slices vs, which hold the integers xss, each in a block of its own; all blocks are among B, .. T - 1. -/
structure RowsAt (eo ei : TypeId) (w : World) (B T : Nat) (v : Value) (vs : List Value) (xss : List (List Int)) : Prop where
  len : vs.length = xss.length
  outer : w.ownsRow B eo 1 v vs.length vs
  top : ∀ k, v.ownBlock = some k → k < T
  rows : ∀ i, i < xss.length → IntsIn ei w B T (vs.getD i (.slice none 0 0)) (xss.getD i [])
  apart : ∀ i j, i < xss.length → j < xss.length → i ≠ j → ∀ k, (vs.getD i (.slice none 0 0)).ownBlock = some k → (vs.getD j (.slice none 0 0)).ownBlock ≠ some k

def RowsIn (eo ei : TypeId) (w : World) (B T : Nat) (v : Value) (xss : List (List Int)) : Prop := ∃ vs, RowsAt eo ei w B T v vs xss

theorem ownsRow_same {w w' : World} {B T : Nat} {e : TypeId} {v : Value} {n : Nat} {vs : List Value} (h : w.ownsRow B e 1 v n vs) (ht : ∀ k, v.ownBlock = some k → k < T) (hs : Same B T w w') : w'.ownsRow B e 1 v n vs := by
  refine ⟨h.1, ?_⟩
  rcases h.2 with h1 | ⟨g, cap, cur, hv, hB, hg, hn, hm, hz, htk⟩
  · exact .inl h1
  · exact .inr ⟨g, cap, cur, hv, hB, by rw [hs g hB (ht g (by rw [hv]; rfl)), hg], hn, hm, hz, htk⟩

theorem RowsAt.keep {eo ei : TypeId} {w w' : World} {B T : Nat} {v : Value} {vs : List Value} {xss : List (List Int)} (h : RowsAt eo ei w B T v vs xss) (hs : Same B T w w') : RowsAt eo ei w' B T v vs xss :=
  ⟨h.len, ownsRow_same h.outer h.top hs, h.top, fun i hi => (h.rows i hi).keep hs, h.apart⟩

theorem RowsIn.keep {eo ei : TypeId} {w w' : World} {B T : Nat} {v : Value} {xss : List (List Int)} (h : RowsIn eo ei w B T v xss) (hs : Same B T w w') : RowsIn eo ei w' B T v xss := by
  obtain ⟨vs, h⟩ := h
  exact ⟨vs, h.keep hs⟩

theorem RowsIn.nil (eo ei : TypeId) (w : World) (B T : Nat) : RowsIn eo ei w B T (.slice none 0 0) [] :=
  ⟨[], rfl, World.ownsRow_nil _ _ _ _, fun k hk => by simp [Value.ownBlock] at hk, fun i hi => by simp at hi, fun i j hi => by simp at hi⟩

theorem ownsRow_block {w : World} {B : Nat} {e : TypeId} {v : Value} {n : Nat} {vs : List Value} (h : w.ownsRow B e 1 v n vs) {k : Nat} (hk : v.ownBlock = some k) : ∃ cur, w.heap[k]? = some (.cells cur e (0, 0)) := by
  rcases h.2 with ⟨h1, _⟩ | ⟨g, cap, cur, hv, hB, hg, _⟩
  · rw [h1] at hk; simp [Value.ownBlock] at hk
  · rw [hv] at hk
    simp [Value.ownBlock] at hk
    subst hk
    exact ⟨cur, hg⟩

theorem ownsRow_apart {w : World} {B B' : Nat} {e e' : TypeId} {v v' : Value} {n n' : Nat} {vs vs' : List Value} (h : w.ownsRow B e 1 v n vs) (h' : w.ownsRow B' e' 1 v' n' vs') (hne : e ≠ e') {k : Nat} (hk : v.ownBlock = some k) : v'.ownBlock ≠ some k := by
  intro hk'
  obtain ⟨c, hc⟩ := ownsRow_block h hk
  obtain ⟨c', hc'⟩ := ownsRow_block h' hk'
  rw [hc] at hc'
  simp at hc'
  exact hne hc'.2

/-- What stands in the outer slice. -/
theorem RowsAt.view {eo ei : TypeId} {w : World} {B T : Nat} {v : Value} {vs : List Value} {xss : List (List Int)} (h : RowsAt eo ei w B T v vs xss) :
    ∃ (a0 : Option Addr) (cap g : Nat), v = .slice a0 xss.length cap ∧ (0 < xss.length → a0 = some ⟨g, 0, none⟩) ∧ xss.length ≤ maxLen ∧
      (∀ i, i < xss.length → w.cell? ⟨g, i, none⟩ = some (vs.getD i (.slice none 0 0))) ∧ (∀ i, 0 < xss.length → w.frozen? ⟨g, i, none⟩ = false) := by
  have hlen := h.len
  have h0 := h.outer
  rcases h0.2 with ⟨hv, hn⟩ | ⟨g, cap, cur, hv, hB, hg, hn, hm, hs, ht⟩
  · exact ⟨none, 0, 0, by rw [← hlen, hn]; exact hv, fun h => by omega, by omega, fun i hi => by omega, fun i hi => by omega⟩
  · subst hv
    refine ⟨some ⟨g, 0, none⟩, cap, g, by rw [← hlen], fun _ => rfl, by omega, fun i hi => ?_, fun i _ => World.ownsRow.frozenAt h0 i⟩
    rw [World.ownsRow.cellAt h0 i (by omega), List.getD_eq_getElem?_getD, List.getElem?_eq_getElem (by omega)]
    rfl

/-- One of the inner slices is written anew. -/
theorem RowsAt.wrote {eo ei : TypeId} {w w' : World} {B T : Nat} {v : Value} {vs : List Value} {xss : List (List Int)} (h : RowsAt eo ei w B T v vs xss) (hne : eo ≠ ei) {k : Nat} (hk : k < xss.length) {ys : List Int}
    (hI : Ints w' B ei (vs.getD k (.slice none 0 0)) ys) (hg : w.grownBy w' (vs.getD k (.slice none 0 0)).ownBlock) : RowsAt eo ei w' B T v vs (xss.set k ys) := by
  refine ⟨by rw [List.length_set]; exact h.len, ?_, h.top, fun i hi => ?_, fun i j hi hj => h.apart i j (by simpa using hi) (by simpa using hj)⟩
  · refine World.ownsRow.kept h.outer hg ?_
    cases hv : v.ownBlock with
    | none => exact .inl rfl
    | some b => exact .inr (fun e => ownsRow_apart h.outer (h.rows k hk).1 hne hv e.symm)
  · rw [List.length_set] at hi
    by_cases hik : i = k
    · subst hik
      rw [List.getD_eq_getElem?_getD (l := xss.set i ys), List.getElem?_set_self hi]
      exact ⟨hI, (h.rows i hi).2⟩
    · rw [List.getD_eq_getElem?_getD (l := xss.set k ys), List.getElem?_set_ne (fun e => hik e.symm), ← List.getD_eq_getElem?_getD]
      refine ⟨World.ownsRow.kept (h.rows i hi).1 hg ?_, (h.rows i hi).2⟩
      cases hv : (vs.getD i (.slice none 0 0)).ownBlock with
      | none => exact .inl rfl
      | some b => exact .inr (fun e => h.apart i k hi hk hik b hv e.symm)

/-- All cells of all rows. -/
def cellsOf (xss : List (List Int)) : Nat := (xss.map List.length).sum

/-- Where the marks of row j begin. -/
def offs (m : Int) (xss : List (List Int)) (j : Nat) : Int := m + (cellsOf (xss.take j) : Int)

theorem offs_zero (m : Int) (xss : List (List Int)) : offs m xss 0 = m := by simp [offs, cellsOf]

theorem offs_succ (m : Int) (xss : List (List Int)) (j : Nat) (h : j < xss.length) : offs m xss j + ((xss.getD j []).length : Int) = offs m xss (j + 1) := by
  unfold offs cellsOf
  rw [List.take_succ_eq_append_getElem h, List.map_append, List.sum_append, List.getD_eq_getElem?_getD, List.getElem?_eq_getElem h]
  simp
  omega

theorem offs_all (m : Int) (xss : List (List Int)) : offs m xss xss.length = m + (cellsOf xss : Int) := by simp [offs]

theorem offs_le (m : Int) (xss : List (List Int)) (j : Nat) : m ≤ offs m xss j ∧ offs m xss j ≤ m + (cellsOf xss : Int) := by
  have : cellsOf (xss.take j) ≤ cellsOf xss := by
    conv => rhs; rw [← List.take_append_drop j xss]
    unfold cellsOf
    rw [List.map_append, List.sum_append]
    omega
  unfold offs
  omega

theorem row_le (xss : List (List Int)) (j : Nat) (h : j < xss.length) : (xss.getD j []).length ≤ cellsOf xss := by
  have h1 := offs_succ 0 xss j h
  have h2 := offs_le 0 xss (j + 1)
  have h3 := offs_le 0 xss j
  omega

/-- The first k rows are marked. -/
def markedRows (m : Int) (xss : List (List Int)) : Nat → List (List Int)
  | 0 => xss
  | k + 1 => (markedRows m xss k).set k (marks (offs m xss k) (xss.getD k []).length)

theorem markedRows_length (m : Int) (xss : List (List Int)) (k : Nat) : (markedRows m xss k).length = xss.length := by
  induction k with
  | zero => rfl
  | succ k ih => rw [markedRows, List.length_set, ih]

theorem markedRows_later (m : Int) (xss : List (List Int)) (k j : Nat) (h : k ≤ j) : (markedRows m xss k).getD j [] = xss.getD j [] := by
  induction k with
  | zero => rfl
  | succ k ih => rw [markedRows, List.getD_eq_getElem?_getD, List.getElem?_set_ne (by omega), ← List.getD_eq_getElem?_getD, ih (by omega)]

theorem markedRows_get (m : Int) (xss : List (List Int)) (k j : Nat) (h : j < k) (hj : j < xss.length) : (markedRows m xss k).getD j [] = marks (offs m xss j) (xss.getD j []).length := by
  induction k with
  | zero => omega
  | succ k ih =>
    by_cases hjk : j = k
    · subst hjk
      rw [markedRows, List.getD_eq_getElem?_getD, List.getElem?_set_self (by rw [markedRows_length]; exact hj)]
      rfl
    · rw [markedRows, List.getD_eq_getElem?_getD, List.getElem?_set_ne (fun e => hjk e.symm), ← List.getD_eq_getElem?_getD, ih (by omega)]

end Go.Proofs.Ytlkehdjfmmghjab
