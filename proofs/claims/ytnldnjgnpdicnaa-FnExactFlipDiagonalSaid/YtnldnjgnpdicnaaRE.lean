/- Regions: what waits in the channel, and what is kept while it is parted. -/
import Derived.Test.YtnldnjgnpdicnaaZE
import Derived.Test.YtnldnjgnpdicnaaRB
import Derived.Test.YtnldnjgnpdicnaaK5
import Derived.Test.YtnldnjgnpdicnaaBA
import Derived.Conc.LoneCalls
namespace Go.Proofs.Ytnldnjgnpdicnaa
open Go.RowKit
set_option linter.unusedVariables false

theorem regs_split (c : Int × Int) (cs : List (Int × Int)) (pts : List Int) (hb : ∀ d ∈ c :: cs, bothR d pts = true) :
    regsF [pts] (c :: cs) = regsF [pts.filter (inS c)] (cs.filter fun d => inS c d.1 && inS c d.2) ++ regsF [pts.filter (outS c)] (cs.filter fun d => outS c d.1 && outS c d.2) := by
  have key : ∀ f : Int → Bool, regsF [pts.filter f] (cs.filter fun d => f d.1 && f d.2) = regsF [pts.filter f] cs := by
    intro f
    have e : cs.filter (fun d => f d.1 && f d.2) = cs.filter (fun d => bothR d (pts.filter f)) := by
      refine List.filter_congr fun d hd => ?_
      rw [bothR_filter, hb d (by simp [hd]), Bool.true_and]
    rw [e]
    exact (regsF_filter cs [pts.filter f] (pts.filter f) (by simp)).symm
  have e1 : splitF [pts] c = [pts.filter (inS c)] ++ [pts.filter (outS c)] := by
    simp [splitF, splitR, hb c (by simp)]
  rw [key, key, regsF_cons, e1, regsF_append]

/-- Chords of which no two are one or cross. -/
def PlaneL (cs : List (Int × Int)) : Prop := (∀ c ∈ cs, c.1 < c.2) ∧ cs.Pairwise Apart

theorem PlaneL.filter {cs : List (Int × Int)} (h : PlaneL cs) (f : Int × Int → Bool) : PlaneL (cs.filter f) :=
  ⟨fun c hc => h.1 c (List.mem_filter.1 hc).1, h.2.filter f⟩

theorem PlaneL.tail {c : Int × Int} {cs : List (Int × Int)} (h : PlaneL (c :: cs)) : PlaneL cs := ⟨fun d hd => h.1 d (by simp [hd]), (List.pairwise_cons.1 h.2).2⟩

theorem parts_length {c : Int × Int} {cs : List (Int × Int)} (h : PlaneL (c :: cs)) :
    (cs.filter fun d => inS c d.1 && inS c d.2).length + (cs.filter fun d => outS c d.1 && outS c d.2).length = cs.length := by
  have hc := h.1 c (by simp)
  have ha := (List.pairwise_cons.1 h.2).1
  have hd : ∀ d ∈ cs, d.1 < d.2 := fun d hd => h.1 d (by simp [hd])
  clear h
  induction cs with
  | nil => rfl
  | cons d cs ih =>
    have h1 := ih (fun x hx => ha x (by simp [hx])) (fun x hx => hd x (by simp [hx]))
    rcases sides_of hc (hd d (by simp)) (ha d (by simp)) with ⟨g1, g2⟩ | ⟨g1, g2⟩
    · rw [List.filter_cons_of_pos (by exact g1), List.filter_cons_of_neg (by simp only [g2]; simp)]
      simp only [List.length_cons]
      omega
    · rw [List.filter_cons_of_neg (by simp only [g1]; simp), List.filter_cons_of_pos (by exact g2)]
      simp only [List.length_cons]
      omega

theorem rowP_cross (xs : List (Int × Int)) (i k : Nat) (h : rowP xs i k = []) (j : Nat) (hij : i < j) (hj : j < k) : crossP (xs.getD i (0, 0)) (xs.getD j (0, 0)) = false := by
  induction k with
  | zero => omega
  | succ k ih =>
    rw [rowP, List.append_eq_nil_iff] at h
    by_cases e : j = k
    · subst e
      rw [← Bool.not_eq_true]
      intro hc
      rw [if_pos ⟨hij, hc⟩] at h
      exact absurd h.2 (by simp)
    · exact ih h.1 (by omega)

theorem allP_cross (xs : List (Int × Int)) (k : Nat) (h : allP xs k = []) (i j : Nat) (hi : i < k) (hij : i < j) (hj : j < xs.length) : crossP (xs.getD i (0, 0)) (xs.getD j (0, 0)) = false := by
  induction k with
  | zero => omega
  | succ k ih =>
    rw [allP, List.append_eq_nil_iff] at h
    by_cases e : i = k
    · subst e
      exact rowP_cross xs i xs.length h.2 j hij hj
    · exact ih h.1 (by omega)

theorem less_up {p : Int} {xs : List (Int × Int)} (h : goodC p xs) : ∀ (d i : Nat), i + d + 1 < xs.length → lessC (xs.getD i (0, 0)) (xs.getD (i + d + 1) (0, 0)) = true := by
  intro d
  induction d with
  | zero => intro i hi; have := (h.2.2 (i + 1) hi).2 (by omega); rwa [Nat.add_sub_cancel] at this
  | succ d ih =>
    intro i hi
    have h1 := ih i (by omega)
    have h2 := (h.2.2 (i + (d + 1) + 1) hi).2 (by omega)
    rw [show i + (d + 1) + 1 - 1 = i + d + 1 by omega] at h2
    exact lessC_trans h1 h2

theorem plane_of_good {p : Int} {xs : List (Int × Int)} (h : goodC p xs) (hpl : allP xs xs.length = []) : PlaneL xs := by
  refine ⟨fun c hc => ?_, ?_⟩
  · obtain ⟨k, hk, rfl⟩ := List.mem_iff_getElem.1 hc
    have := chord_order h k hk
    rwa [List.getD_eq_getElem?_getD, List.getElem?_eq_getElem hk] at this
  · rw [List.pairwise_iff_getElem]
    intro i j hi hj hij
    have e1 : xs.getD i (0, 0) = xs[i] := by rw [List.getD_eq_getElem?_getD, List.getElem?_eq_getElem hi]; rfl
    have e2 : xs.getD j (0, 0) = xs[j] := by rw [List.getD_eq_getElem?_getD, List.getElem?_eq_getElem hj]; rfl
    refine ⟨fun e => ?_, ?_⟩
    · have := less_up h (j - i - 1) i (by omega)
      rw [show i + (j - i - 1) + 1 = j by omega, e1, e2, e] at this
      exact lessC_irrefl _ this
    · rw [← e1, ← e2]
      exact allP_cross xs _ hpl i j hi hij hj

/-! What is kept. -/

/-- Every block of cells is as it was. -/
structure Kept (w w' : World) : Prop where
  cells : ∀ (k : Nat) (cs : Array Value) (t : TypeId) (fr : Nat × Nat), w.heap[k]? = some (.cells cs t fr) → w'.heap[k]? = some (.cells cs t fr)
  size : w.heap.size ≤ w'.heap.size

theorem Kept.refl (w : World) : Kept w w := ⟨fun _ _ _ _ h => h, Nat.le_refl _⟩
theorem Kept.trans {w w' w'' : World} (h : Kept w w') (h' : Kept w' w'') : Kept w w'' := ⟨fun k cs t fr hk => h'.cells k cs t fr (h.cells k cs t fr hk), Nat.le_trans h.size h'.size⟩
theorem Kept.cell {w w' : World} (h : Kept w w') {b o : Nat} {x : Value} (hc : w.cell? ⟨b, o, none⟩ = some x) : w'.cell? ⟨b, o, none⟩ = some x := by
  unfold World.cell? at hc ⊢
  cases hb : w.heap[b]? with
  | none => simp [hb] at hc
  | some ob =>
    cases ob with
    | cells cs t fr => simpa [hb, h.cells _ _ _ _ hb] using hc
    | _ => simp [hb] at hc

theorem Kept.of_below {w w' : World} (h : Below w.heap.size w w') : Kept w w' :=
  ⟨fun k cs t fr hk => (h.block k (Array.getElem?_eq_some_iff.1 hk).1).trans hk, h.size⟩
theorem Kept.of_chan {w : World} {g cap s r : Nat} {buf : Array Value} {cl tm : Bool} (hg : w.heap[g]? = some (.chan cap buf cl s r tm)) (cap' : Nat) (buf' : Array Value) (cl' : Bool) (s' r' : Nat) (tm' : Bool) : Kept w (w.setChan g cap' buf' cl' s' r' tm') := by
  refine ⟨fun k cs t fr hk => ?_, by rw [Conc.size_setChan]; exact Nat.le_refl _⟩
  have hne : g ≠ k := fun e => by rw [e, hk] at hg; cases hg
  simp only [World.setChan]
  rw [Array.getElem?_setIfInBounds_ne hne]
  exact hk

theorem Kept.ints {w w' : World} (h : Kept w w') {B : Nat} {e : TypeId} {v : Value} {xs : List Int} (hI : Ints w B e v xs) : Ints w' B e v xs := by
  refine ⟨hI.1, ?_⟩
  rcases hI.2 with h1 | ⟨b, cap, cur, hv, hB, hh, rest⟩
  · exact .inl h1
  · exact .inr ⟨b, cap, cur, hv, hB, h.cells _ _ _ _ hh, rest⟩
theorem Kept.intsIn {w w' : World} (h : Kept w w') {B T T' : Nat} {e : TypeId} {v : Value} {xs : List Int} (hI : IntsIn e w B T v xs) (hT : T ≤ T') : IntsIn e w' B T' v xs := ⟨h.ints hI.1, fun k hk => Nat.lt_of_lt_of_le (hI.2 k hk) hT⟩
theorem Kept.pairsIn {w w' : World} (h : Kept w w') {B T T' : Nat} {e : TypeId} {v : Value} {xs : List (Int × Int)} (hI : PairsIn e w B T v xs) (hT : T ≤ T') : PairsIn e w' B T' v xs := by
  refine ⟨⟨hI.1.1, ?_⟩, fun k hk => Nat.lt_of_lt_of_le (hI.2 k hk) hT⟩
  rcases hI.1.2 with h1 | ⟨b, cap, cur, hv, hB, hh, rest⟩
  · exact .inl h1
  · exact .inr ⟨b, cap, cur, hv, hB, h.cells _ _ _ _ hh, rest⟩
theorem Kept.rows {w w' : World} (h : Kept w w') {eo ei : TypeId} {B T T' : Nat} {v : Value} {vs : List Value} {xss : List (List Int)} (hR : RowsAt eo ei w B T v vs xss) (hT : T ≤ T') : RowsAt eo ei w' B T' v vs xss := by
  refine ⟨hR.len, ⟨hR.outer.1, ?_⟩, fun k hk => Nat.lt_of_lt_of_le (hR.top k hk) hT, fun i hi => h.intsIn (hR.rows i hi) hT, hR.apart⟩
  rcases hR.outer.2 with h1 | ⟨b, cap, cur, hv, hB, hh, rest⟩
  · exact .inl h1
  · exact .inr ⟨b, cap, cur, hv, hB, h.cells _ _ _ _ hh, rest⟩

/-- A row that shares no block with the others is appended. -/
theorem RowsAt.moreAny {eo ei : TypeId} {w w' : World} {B T T' : Nat} {v v' : Value} {vs : List Value} {xss : List (List Int)} (h : RowsAt eo ei w B T v vs xss) (hne : eo ≠ ei) {u : Value} {ys : List Int} (hu : IntsIn ei w B T' u ys)
    (hap : ∀ i, i < xss.length → ∀ k, (vs.getD i (.slice none 0 0)).ownBlock = some k → u.ownBlock ≠ some k)
    (hT : T ≤ w'.heap.size) (hT' : T' ≤ w'.heap.size) (ho : w'.ownsRow B eo 1 v' (vs ++ [u]).length (vs ++ [u])) (hg : w.grownBy w' v.ownBlock) :
    RowsAt eo ei w' B w'.heap.size v' (vs ++ [u]) (xss ++ [ys]) := by
  have hlen := h.len
  have kept : ∀ (x : Value) (xs : List Int) (T1 : Nat), IntsIn ei w B T1 x xs → T1 ≤ w'.heap.size → IntsIn ei w' B w'.heap.size x xs := fun x xs T1 hx hT1 => by
    refine IntsIn.widen ⟨World.ownsRow.kept hx.1 hg ?_, hx.2⟩ (Nat.le_refl _) hT1
    cases hv : x.ownBlock with
    | none => exact .inl rfl
    | some b => exact .inr (fun e => ownsRow_apart h.outer hx.1 hne e.symm hv)
  refine ⟨by simp [hlen], ho, fun b hb => (ho.lt b hb).2, fun i hi => ?_, fun i j hi hj hij b => ?_⟩
  · simp at hi
    by_cases hil : i < xss.length
    · rw [getD_append_left (by omega), getD_append_left hil]
      exact kept _ _ _ (h.rows i hil) hT
    · obtain rfl : i = xss.length := by omega
      have e1 : (vs ++ [u]).getD xss.length (.slice none 0 0) = u := by rw [← hlen]; exact getD_append_last
      rw [e1, getD_append_last]
      exact kept _ _ _ hu hT'
  · simp at hi hj
    have e1 : (vs ++ [u]).getD xss.length (.slice none 0 0) = u := by rw [← hlen]; exact getD_append_last
    by_cases hil : i < xss.length
    · rw [getD_append_left (by omega)]
      by_cases hjl : j < xss.length
      · rw [getD_append_left (by omega)]
        exact h.apart i j hil hjl hij b
      · obtain rfl : j = xss.length := by omega
        rw [e1]
        exact hap i hil b
    · obtain rfl : i = xss.length := by omega
      rw [e1, getD_append_left (by omega)]
      intro hb hb'
      exact hap j (by omega) b hb' hb

/-! The queue. -/

/-- A region that waits: where its points and its chords lie, and these. -/
structure QE where
  ua : Option Addr
  uc : Nat
  va : Option Addr
  vc : Nat
  pts : List Int
  cs : List (Int × Int)

def QE.u (e : QE) : Value := .slice e.ua e.pts.length e.uc
def QE.v (e : QE) : Value := .slice e.va e.cs.length e.vc
def QE.val (e : QE) : Value := .agg #[e.u, e.v]

/-- How much is left to be done for what waits. -/
def qm : Value → Nat
  | .agg cs => match cs.toList with
    | [_, .slice _ n _] => 1 + 2 * n
    | _ => 0
  | _ => 0
theorem qm_val (e : QE) : qm e.val = 1 + 2 * e.cs.length := rfl
def muQ (g : Nat) (w : World) : Nat := match w.heap[g]? with
  | some (.chan _ buf _ _ _ _) => (buf.toList.map qm).sum
  | _ => 0

def muL (q : List QE) : Nat := (q.map fun e => 1 + 2 * e.cs.length).sum
theorem muQ_is {g N s r : Nat} {w : World} {q : List QE} (h : w.heap[g]? = some (.chan N (q.map QE.val).toArray false s r false)) : muQ g w = muL q := by
  unfold muQ muL
  rw [h]
  simp only [List.map_map]
  rfl

/-- Blocks in the order in which they were made. -/
def Later (a b : Value) : Prop := ∀ i j, a.ownBlock = some i → b.ownBlock = some j → i < j

structure OkE (w wr : World) (e : QE) : Prop where
  pts : IntsIn 3 wr w.heap.size wr.heap.size e.u e.pts
  cs : PairsIn 52 wr 0 wr.heap.size e.v e.cs
  few : e.pts.length ≤ 60 ∧ e.cs.length ≤ 40
  plane : PlaneL e.cs
  both : ∀ d ∈ e.cs, bothR d e.pts = true

structure QInv (w wr : World) (g N : Nat) (u : Value) (vs : List Value) (xss : List (List Int)) (q : List QE) (s r : Nat) (all : List (List Int)) : Prop where
  chan : wr.heap[g]? = some (.chan N (q.map QE.val).toArray false s r false)
  els : ∀ e ∈ q, OkE w wr e
  rows : RowsAt 33 3 wr w.heap.size wr.heap.size u vs xss
  order : (vs ++ q.map QE.u).Pairwise Later
  count : (q.map fun e => 1 + e.cs.length).sum + xss.length = N
  leaves : (xss ++ q.flatMap fun e => regsF [e.pts] e.cs).Perm all
  below : Below w.heap.size w wr
  lt : w.heap.size ≤ g ∧ g < wr.heap.size

theorem OkE.kept {w wr w' : World} {e : QE} (h : OkE w wr e) (hk : Kept wr w') : OkE w w' e := ⟨hk.intsIn h.pts hk.size, hk.pairsIn h.cs hk.size, h.few, h.plane, h.both⟩

theorem sum_ge {q : List QE} : q.length ≤ (q.map fun e => 1 + e.cs.length).sum := by
  induction q with
  | nil => simp
  | cons e q ih => simp; omega

theorem later_getD {vs : List Value} {us : List Value} (h : (vs ++ us).Pairwise Later) {u : Value} (hu : u ∈ us) (i : Nat) (hi : i < vs.length) : Later (vs.getD i (.slice none 0 0)) u := by
  rw [List.pairwise_append] at h
  refine h.2.2 _ ?_ _ hu
  rw [List.getD_eq_getElem?_getD, List.getElem?_eq_getElem hi]
  exact List.getElem_mem hi

/-- A region without chords goes to the others. w2: behind the take and what else was made; w3: behind the append. -/
theorem QInv.leaf {w wr w2 w3 : World} {g N : Nat} {u u3 : Value} {vs : List Value} {xss : List (List Int)} {e : QE} {q : List QE} {s r : Nat} {all : List (List Int)} (h : QInv w wr g N u vs xss (e :: q) s r all) (hcs : e.cs = [])
    (hk : Kept wr w2) (hch : w2.heap[g]? = some (.chan N (q.map QE.val).toArray false s (r + 1) false)) (hb : Below w.heap.size w w3) (hg : w2.grownBy w3 u.ownBlock) (hne : u.ownBlock ≠ some g) (hgw : g < w2.heap.size)
    (ho : w3.ownsRow w.heap.size 33 1 u3 (vs ++ [e.u]).length (vs ++ [e.u])) : QInv w w3 g N u3 (vs ++ [e.u]) (xss ++ [e.pts]) q s (r + 1) all := by
  have hR := hk.rows h.rows hk.size
  have he := (h.els e (by simp)).kept hk
  have hs := hg.size
  have keptI : ∀ (x : Value) (ys : List Int), IntsIn 3 w2 w.heap.size w2.heap.size x ys → IntsIn 3 w3 w.heap.size w3.heap.size x ys := fun x ys hx => by
    refine ⟨World.ownsRow.kept hx.1 hg ?_, fun k hk => Nat.lt_of_lt_of_le (hx.2 k hk) hs⟩
    cases hv : x.ownBlock with
    | none => exact .inl rfl
    | some b => exact .inr (fun e => ownsRow_apart hR.outer hx.1 (by decide) e.symm hv)
  have hu0 : ∀ (b : Nat) (cur : Array Value) (t : TypeId), t ≠ 33 → w2.heap[b]? = some (.cells cur t (0, 0)) → u.ownBlock ≠ some b := fun b cur t ht hb hv => by
    obtain ⟨cur2, hc⟩ := ownsRow_block hR.outer hv
    rw [hb] at hc
    simp only [Option.some.injEq, Obj.cells.injEq] at hc
    exact ht hc.2.1
  refine ⟨?_, fun x hx => ?_, ?_, ?_, ?_, ?_, hb, h.lt.1, Nat.lt_of_lt_of_le hgw hs⟩
  · exact (hg.block g hgw (fun e => hne e.symm)).trans hch
  · have hx2 := (h.els x (by simp [hx])).kept hk
    refine ⟨keptI _ _ hx2.pts, ⟨⟨hx2.cs.1.1, ?_⟩, fun k hk => Nat.lt_of_lt_of_le (hx2.cs.2 k hk) hs⟩, hx2.few, hx2.plane, hx2.both⟩
    rcases hx2.cs.1.2 with h1 | ⟨b, cap, cur, hv, hB, hh, rest⟩
    · exact .inl h1
    · exact .inr ⟨b, cap, cur, hv, hB, (hg.block b (Array.getElem?_eq_some_iff.1 hh).1 (fun e => hu0 b cur _ (by decide) hh e.symm)).trans hh, rest⟩
  · refine hR.moreAny (by decide) he.pts (fun i hi k hk1 hk2 => ?_) hs hs ho hg
    have := later_getD h.order (u := e.u) (by simp) i (by rw [hR.len]; exact hi) k k hk1 hk2
    omega
  · have := h.order
    simpa [List.append_assoc] using this
  · have := h.count
    simp only [List.map_cons, List.sum_cons, hcs, List.length_nil, List.length_append, List.length_singleton] at this ⊢
    omega
  · have := h.leaves
    rw [List.flatMap_cons, hcs] at this
    simpa [regsF, List.append_assoc] using this

/-- A region is parted. -/
theorem QInv.split {w wr w5 : World} {g N B1 T1 B2 : Nat} {u : Value} {vs : List Value} {xss : List (List Int)} {e e1 e2 : QE} {q : List QE} {s r : Nat} {all : List (List Int)} {c : Int × Int} {cs : List (Int × Int)} (h : QInv w wr g N u vs xss (e :: q) s r all) (hcs : e.cs = c :: cs)
    (hk : Kept wr w5) (hch : w5.heap[g]? = some (.chan N ((q ++ [e1, e2]).map QE.val).toArray false (s + 2) (r + 1) false)) (hb : Below w.heap.size w w5)
    (p1 : e1.pts = e.pts.filter (inS c)) (q1 : e1.cs = cs.filter fun d => inS c d.1 && inS c d.2) (p2 : e2.pts = e.pts.filter (outS c)) (q2 : e2.cs = cs.filter fun d => outS c d.1 && outS c d.2)
    (i1 : IntsIn 3 w5 B1 T1 e1.u e1.pts) (hB1 : wr.heap.size ≤ B1) (hBT : B1 ≤ B2) (hT1 : T1 ≤ B2) (i2 : IntsIn 3 w5 B2 w5.heap.size e2.u e2.pts) (hB2 : B2 ≤ w5.heap.size)
    (c1 : PairsIn 52 w5 0 w5.heap.size e1.v e1.cs) (c2 : PairsIn 52 w5 0 w5.heap.size e2.v e2.cs) : QInv w w5 g N u vs xss (q ++ [e1, e2]) (s + 2) (r + 1) all := by
  have he := h.els e (by simp)
  have hpl := he.plane
  have hbo := he.both
  rw [hcs] at hpl hbo
  have hlw := h.below.size
  have hok : ∀ (x : QE) (f : Int → Bool), x.pts = e.pts.filter f → x.cs = cs.filter (fun d => f d.1 && f d.2) → IntsIn 3 w5 w.heap.size w5.heap.size x.u x.pts → PairsIn 52 w5 0 w5.heap.size x.v x.cs → OkE w w5 x := fun x f hp hq hi hc => by
    refine ⟨hi, hc, ⟨?_, ?_⟩, ?_, ?_⟩
    · rw [hp]
      exact Nat.le_trans (List.length_filter_le _ _) he.few.1
    · rw [hq]
      have := he.few.2
      rw [hcs, List.length_cons] at this
      exact Nat.le_trans (List.length_filter_le _ _) (by omega)
    · rw [hq]
      exact hpl.tail.filter _
    · intro d hd
      rw [hq] at hd
      have hd2 := List.mem_filter.1 hd
      rw [hp, bothR_filter, hbo d (by simp [hd2.1]), Bool.true_and]
      exact hd2.2
  have hlate : ∀ (a : Value) (ys : List Int) (T B : Nat) (b : Value) (zs : List Int) (w1 : World) (T3 : Nat), IntsIn 3 w1 w.heap.size T a ys → T ≤ B → IntsIn 3 w5 B T3 b zs → Later a b := fun a ys T B b zs w1 T3 h1 h2 h3 i j hi hj => by
    have := h1.2 i hi
    have := (h3.1.own j hj).1
    omega
  refine ⟨hch, fun x hx => ?_, hk.rows h.rows hk.size, ?_, ?_, ?_, hb, h.lt.1, Nat.lt_of_lt_of_le h.lt.2 hk.size⟩
  · rcases List.mem_append.1 hx with hx | hx
    · exact (h.els x (by simp [hx])).kept hk
    · simp at hx
      rcases hx with rfl | rfl
      · exact hok _ _ p1 q1 ⟨i1.1.mono (by omega), fun k hk => by have := i1.2 k hk; omega⟩ c1
      · have hs := h.below.size
        have hks := hk.size
        exact hok _ _ p2 q2 ⟨i2.1.mono (by omega), i2.2⟩ c2
  · have ho := h.order
    rw [List.map_cons, show vs ++ e.u :: q.map QE.u = (vs ++ [e.u]) ++ q.map QE.u by simp] at ho
    have hR := h.rows
    have hmem : ∀ a ∈ vs ++ q.map QE.u, ∃ ys, IntsIn 3 wr w.heap.size wr.heap.size a ys := fun a ha => by
      rcases List.mem_append.1 ha with ha | ha
      · obtain ⟨i, hi, rfl⟩ := List.mem_iff_getElem.1 ha
        have := hR.rows i (by rw [← hR.len]; exact hi)
        rw [List.getD_eq_getElem?_getD, List.getElem?_eq_getElem hi] at this
        exact ⟨_, this⟩
      · obtain ⟨x, hx, rfl⟩ := List.mem_map.1 ha
        exact ⟨_, (h.els x (by simp [hx])).pts⟩
    have hold : (vs ++ q.map QE.u).Pairwise Later := by
      refine ho.sublist ?_
      rw [List.append_assoc]
      exact List.Sublist.append_left (by simp) _
    rw [List.map_append, ← List.append_assoc, List.pairwise_append]
    refine ⟨hold, ?_, fun a ha b hb => ?_⟩
    · simp only [List.map_cons, List.map_nil, List.pairwise_cons, List.mem_singleton, forall_eq, List.not_mem_nil, false_implies, implies_true, List.Pairwise.nil, and_true]
      intro i j hi hj
      have := i1.2 i hi
      have := (i2.1.own j hj).1
      omega
    · obtain ⟨ys, hys⟩ := hmem a ha
      intro i j hi hj
      have h1 := hys.2 i hi
      simp at hb
      rcases hb with rfl | rfl
      · have := (i1.1.own j hj).1
        omega
      · have := (i2.1.own j hj).1
        omega
  · have h1 := h.count
    have h2 := parts_length hpl
    simp only [List.map_cons, List.sum_cons, hcs, List.length_cons, List.map_append, List.sum_append, List.map_nil, List.sum_nil, q1, q2] at h1 ⊢
    omega
  · have h1 := h.leaves
    rw [List.flatMap_cons, hcs, regs_split c cs e.pts hbo] at h1
    refine List.Perm.trans ?_ h1
    rw [List.flatMap_append, List.flatMap_cons, List.flatMap_cons, List.flatMap_nil, p1, q1, p2, q2, List.append_nil]
    exact List.Perm.append_left _ List.perm_append_comm
end Go.Proofs.Ytnldnjgnpdicnaa
