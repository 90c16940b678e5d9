/- The edge of threads: its corners; two lists that are appended to by turns. -/
import Derived.Test.YtpcebcgmbngababED
import Derived.Test.YtpcebcgmbngababBL
import Derived.Test.YtpcebcgmbngababB6
namespace Go.Proofs.Ytpcebcgmbngabab
open Go.RowKit
set_option linter.unusedVariables false

/-- The four numbers of the meeting of threads k and j. -/
def mtE (xs : List (Int × Int)) (k j : Nat) : List Int := meetL (xs.getD k (0, 0)).1 (xs.getD k (0, 0)).2 (xs.getD j (0, 0)).1 (xs.getD j (0, 0)).2

theorem mtE_zero (xs : List (Int × Int)) (k j : Nat) : (mtE xs k j).getD 0 0 = (exA xs k j : Nat) := rfl
theorem mtE_one (xs : List (Int × Int)) (k j : Nat) : (mtE xs k j).getD 1 0 = (exB xs k j : Nat) := rfl

/-- The corners of the edge from thread k on. -/
def cornersF (xs : List (Int × Int)) : Nat → Nat → List (List Int)
  | 0, _ => []
  | f + 1, k => match nxtE xs k xs.length with | none => [] | some j => mtE xs k j :: cornersF xs f j

def cornersT (xs : List (Int × Int)) : List (List Int) := cornersF xs xs.length (startE xs xs.length)

/-- What is known of the next thread and of its corner. -/
def CornerE (w : World) (B : Nat) (xs : List (Int × Int)) (k : Nat) (o : Option Nat) (n c : Value) : Prop :=
  (o = none ∧ n = .int .i64 (-1) ∧ c = .slice none 0 0) ∨ ∃ j : Nat, o = some j ∧ n = .int .i64 j ∧ Ints w B 3 c (mtE xs k j)

theorem CornerE.later {w w' : World} {B : Nat} {xs : List (Int × Int)} {k : Nat} {o : Option Nat} {n c : Value} (h : CornerE w B xs k o n c) (hb : Below w.heap.size w w') : CornerE w' B xs k o n c := by
  rcases h with h | ⟨j, h1, h2, h3⟩
  · exact .inl h
  · exact .inr ⟨j, h1, h2, h3.later hb⟩

/-- How far along the edge: the threads before thread k and the corners up to it. -/
structure AlongE (xs : List (Int × Int)) (k : Nat) (pre : List Int) (pc : List (List Int)) : Prop where
  lt : k < xs.length
  preL : pre.length ≤ k
  pcL : pc.length ≤ k
  rest : ∃ f, xs.length ≤ f + k ∧ pre ++ edgeF xs f k = edgeT xs ∧ pc ++ cornersF xs f k = cornersT xs

theorem AlongE.start {xs : List (Int × Int)} (h : 0 < xs.length) : AlongE xs (startE xs xs.length) [] [] :=
  ⟨startE_lt xs h _ (Nat.le_refl _), by simp, by simp, xs.length, by omega, rfl, rfl⟩

theorem AlongE.last {xs : List (Int × Int)} {k : Nat} {pre : List Int} {pc : List (List Int)} (h : AlongE xs k pre pc) (hn : nxtE xs k xs.length = none) : pre ++ [(k : Int)] = edgeT xs ∧ pc = cornersT xs := by
  obtain ⟨f, hf, h1, h2⟩ := h.rest
  have := h.lt
  obtain ⟨f, rfl⟩ : ∃ f', f = f' + 1 := ⟨f - 1, by omega⟩
  rw [edgeF, hn] at h1
  rw [cornersF, hn] at h2
  exact ⟨h1, by simpa using h2⟩

theorem AlongE.next {xs : List (Int × Int)} {k j : Nat} {pre : List Int} {pc : List (List Int)} (h : AlongE xs k pre pc) (hg : goodT xs) (hn : nxtE xs k xs.length = some j) : AlongE xs j (pre ++ [(k : Int)]) (pc ++ [mtE xs k j]) ∧ k < j := by
  obtain ⟨f, hf, h1, h2⟩ := h.rest
  have hlt := h.lt
  have hj := nxt_some _ _ hn
  have hkj := cand_after hg hlt hj.2
  have hp := h.preL
  have hc := h.pcL
  obtain ⟨f, rfl⟩ : ∃ f', f = f' + 1 := ⟨f - 1, by omega⟩
  rw [edgeF, hn] at h1
  rw [cornersF, hn] at h2
  exact ⟨⟨hj.1, by simp; omega, by simp; omega, f, by omega, by simpa using h1, by simpa using h2⟩, hkj⟩

/-- Rows stay while something else is appended to. -/
theorem RowsAt.aside {eo ei : TypeId} {w w' : World} {B T : Nat} {v : Value} {vs : List Value} {xss : List (List Int)} {row : Option Nat} (h : RowsAt eo ei w B T v vs xss) (hg : w.grownBy w' row) (h1 : ∀ q, row = some q → v.ownBlock ≠ some q)
    (h2 : ∀ i, i < xss.length → ∀ q, row = some q → (vs.getD i (.slice none 0 0)).ownBlock ≠ some q) : RowsAt eo ei w' B T v vs xss := by
  have side : ∀ u : Value, (∀ q, row = some q → u.ownBlock ≠ some q) → u.ownBlock = none ∨ u.ownBlock ≠ row := fun u hu => by
    cases hv : u.ownBlock with
    | none => exact .inl rfl
    | some q => exact .inr fun e => hu q e.symm hv
  exact ⟨h.len, World.ownsRow.kept h.outer hg (side v h1), h.top, fun i hi => ⟨World.ownsRow.kept (h.rows i hi).1 hg (side _ (h2 i hi)), (h.rows i hi).2⟩, h.apart⟩

/-- The threads and the corners so far, apart from one another. -/
structure EdgeM (w : World) (B : Nat) (xs : List (Int × Int)) (k : Nat) (pre : List Int) (pc : List (List Int)) (vs : List Value) (o c : Value) : Prop where
  along : AlongE xs k pre pc
  out : Ints w B 3 o (pre ++ [(k : Int)])
  rows : RowsAt 39 3 w B w.heap.size c vs pc
  apart : ∀ i, i < pc.length → ∀ q, o.ownBlock = some q → (vs.getD i (.slice none 0 0)).ownBlock ≠ some q

theorem edge_mid {w0 wr w2 : World} {B k j : Nat} {xs : List (Int × Int)} {pre : List Int} {pc : List (List Int)} {vs : List Value} {o c cv : Value} (h : EdgeM w0 B xs k pre pc vs o c)
    (hb : Below w0.heap.size w0 wr) (hC : Ints wr w0.heap.size 3 cv (mtE xs k j)) (hg2 : wr.grownBy w2 o.ownBlock) :
    RowsAt 39 3 w2 B w0.heap.size c vs pc ∧ Ints w2 w0.heap.size 3 cv (mtE xs k j) := by
  have hR := h.rows.keep (belowSame hb (Nat.le_refl _))
  have hI := h.out.later hb
  refine ⟨hR.aside hg2 (fun q hq hv => ownsRow_apart hR.outer hI (by decide) hv hq) h.apart, hC.kept hg2 ?_⟩
  cases hv : cv.ownBlock with
  | none => exact .inl rfl
  | some q =>
    refine .inr fun e => ?_
    have h1 := (hC.own q hv).1
    have h2 := (h.out.own q e.symm).2
    omega

theorem edge_step {w0 wr w2 w4 : World} {B k j g n cap : Nat} {xs : List (Int × Int)} {pre : List Int} {pc : List (List Int)} {vs : List Value} {o c c' cv : Value} (h : EdgeM w0 B xs k pre pc vs o c) (hB : B ≤ w0.heap.size) (hg : goodT xs) (hn : nxtE xs k xs.length = some j)
    (hb : Below w0.heap.size w0 wr) (hC : Ints wr w0.heap.size 3 cv (mtE xs k j)) (hg2 : wr.grownBy w2 o.ownBlock)
    (hI2 : Ints w2 B 3 (.slice (some ⟨g, 0, none⟩) n cap) (pre ++ [(k : Int)] ++ [(j : Int)])) (hl : o.ownBlock = some g ∨ g = wr.heap.size + 1)
    (hO : w4.ownsRow B 39 1 c' (vs ++ [cv]).length (vs ++ [cv])) (hg4 : w2.grownBy w4 c.ownBlock) :
    EdgeM w4 B xs j (pre ++ [(k : Int)]) (pc ++ [mtE xs k j]) (vs ++ [cv]) (.slice (some ⟨g, 0, none⟩) n cap) c' := by
  obtain ⟨hR2, hC2⟩ := edge_mid h hb hC hg2
  have hz := hb.size
  have hz2 := hg2.size
  have hlen := h.rows.len
  refine ⟨(h.along.next hg hn).1, hI2.kept hg4 ?_, hR2.more (by decide) ⟨hC2, fun b hb => (hC2.own b hb).2⟩ hB (by omega) hg4.size hO hg4, fun i hi q hq => ?_⟩
  · refine .inr fun e => ?_
    exact ownsRow_apart hR2.outer hI2 (by decide) (e.symm.trans rfl) rfl
  · simp only [Value.ownBlock, Option.some.injEq] at hq
    obtain rfl : g = q := by simpa using hq
    simp at hi
    by_cases hil : i < pc.length
    · rw [getD_append_left (by omega)]
      rcases hl with hl | hl
      · exact h.apart i hil g hl
      · intro hv
        have := (h.rows.rows i hil).2 g hv
        omega
    · obtain rfl : i = pc.length := by omega
      have e1 : (vs ++ [cv]).getD pc.length (.slice none 0 0) = cv := by rw [← hlen]; exact getD_append_last
      rw [e1]
      intro hv
      have h1 := hC.own g hv
      rcases hl with hl | hl
      · have := (h.out.own g hl).2
        omega
      · omega

theorem EdgeM.start (w : World) (B : Nat) {xs : List (Int × Int)} (h : 0 < xs.length) (hB : B ≤ w.heap.size) (s : Nat) (hs : startE xs xs.length = s) :
    EdgeM (w.alloc (.cells #[.int .i64 (s : Int)] 3)) B xs s [] [] [] (.slice (some ⟨w.heap.size, 0, none⟩) 1 1) (.slice none 0 0) :=
  ⟨hs ▸ AlongE.start h, Ints.boxed w B 3 [(s : Int)] hB (by simp), ⟨rfl, World.ownsRow_nil _ _ _ _, fun k hk => by simp [Value.ownBlock] at hk, fun i hi => by simp at hi, fun i j hi => by simp at hi⟩, fun i hi => by simp at hi⟩

theorem EdgeM.grow {w w' : World} {B k : Nat} {xs : List (Int × Int)} {pre : List Int} {pc : List (List Int)} {vs : List Value} {o c : Value} (h : EdgeM w B xs k pre pc vs o c) (hb : Below w.heap.size w w') : EdgeM w' B xs k pre pc vs o c :=
  ⟨h.along, h.out.later hb, (h.rows.keep (belowSame hb (Nat.le_refl _))).wider hb.size, h.apart⟩

end Go.Proofs.Ytpcebcgmbngabab
