/- ZY: Z4, Z1, Z5, Z6, Z7, Z8, Z9, one after the other. -/
import Derived.Test.YtnldnjgnpdicnaaZX
import Derived.Maps.RangeWalk
import Derived.Maps.OwnSet
import Derived.DeepKeys4
import Derived.Test.YtnldnjgnpdicnaaSh
import Derived.Test.YtnldnjgnpdicnaaC1
import Derived.Test.YtnldnjgnpdicnaaBA
import Derived.Sort.OwnSortedInts
import Derived.Test.YtnldnjgnpdicnaaV9
import Derived.Test.YtnldnjgnpdicnaaK9
namespace Go.Proofs.Ytnldnjgnpdicnaa
open Go.RowKit Go.Maps
set_option linter.unusedVariables false

theorem laidOutP : laidOutB Try.prog = true := by kernel_rfl
theorem rowC : (52 : TypeId) < Try.prog.types.size := of_decide_eq_true (by kernel_rfl)
theorem keyC : Keyed Try.prog 52 := Keyed.of_law (deep_law_laid laidOutP (m := 2) (by omega) rowC (by kernel_rfl) (by rw [Try.underlying52]))

abbrev aggC (c : Int × Int) : Value := .agg #[.int .i64 c.1, .int .i64 c.2]

/-- The key of a chord. -/
def IsKey (c : Int × Int) (kl : Lit) : Prop := keyOf Try.prog 52 (aggC c) = some kl

theorem keyLits_C (a b : Value) (d : Nat) : Try.prog.keyLits (d + 2) 52 [a, b] = (Try.prog.keyLits (d + 1) 3 [a]).bind fun x => (Try.prog.keyLits (d + 1) 3 [b]).map fun y => x ++ y := by
  have hc : Try.prog.cellsOf 52 = 2 := by kernel_rfl
  have hi : Try.prog.cellsOf 3 = 1 := by kernel_rfl
  obtain ⟨x, hx⟩ : ∃ x, Try.prog.keyLits (d + 1) 3 [a] = x := ⟨_, rfl⟩
  obtain ⟨y, hy⟩ : ∃ y, Try.prog.keyLits (d + 1) 3 [b] = y := ⟨_, rfl⟩
  rw [hx, hy]
  unfold Program.keyLits
  rw [Try.underlying52]
  simp [hc, hi, List.mapM_cons, hx, hy]
  cases x <;> cases y <;> simp

theorem keyLits_int (a : Value) (d : Nat) : Try.prog.keyLits (d + 1) 3 [a] = match a with | .int .i64 n => if (Lit.int .i64 n).wf = true then some [.int .i64 n] else none | _ => none := by
  unfold Program.keyLits
  rw [Try.underlying3]
  cases a <;> try rfl
  rename_i q n
  cases q <;> simp

theorem formedC (a b : Value) : (Value.agg #[a, b]).formed Try.prog 52 = true := by
  have hc : Try.prog.cellsOf 52 = 2 := by kernel_rfl
  simp [Value.formed, Try.underlying52, hc]

theorem sizeP : ∃ d, Try.prog.types.size + 1 = d + 2 := ⟨Try.prog.types.size - 1, by have : 1 < Try.prog.types.size := Nat.lt_of_le_of_lt (by decide) rowC; omega⟩

theorem keyOf_agg (a b : Value) : keyOf Try.prog 52 (.agg #[a, b]) = (Try.prog.keyLits (Try.prog.types.size + 1) 52 [a, b]).map fun ls => .string (keyBytes ls) := by
  have hk : Try.prog.keyType 52 = true := by kernel_rfl
  unfold keyOf
  simp only [Try.underlying52, hk, formedC, Bool.and_self, if_true]
  rfl

theorem isKey_ex (c : Int × Int) (h1 : (Lit.int .i64 c.1).wf = true) (h2 : (Lit.int .i64 c.2).wf = true) : ∃ kl, IsKey c kl := by
  unfold IsKey
  rw [keyOf_agg]
  obtain ⟨d, hd⟩ := sizeP
  rw [hd, keyLits_C, keyLits_int, keyLits_int]
  simp only [h1, h2, if_true]
  exact ⟨_, rfl⟩

theorem two_of_size (cs : Array Value) (h : cs.size = 2) : ∃ a b, cs = #[a, b] := by
  match cs, h with
  | ⟨[a, b]⟩, _ => exact ⟨a, b, rfl⟩

theorem isKey_inv {v : Value} {kl : Lit} (h : keyOf Try.prog 52 v = some kl) : ∃ c : Int × Int, v = aggC c := by
  have hc : Try.prog.cellsOf 52 = 2 := by kernel_rfl
  have hk : Try.prog.keyType 52 = true := by kernel_rfl
  have hf : v.formed Try.prog 52 = true := by
    unfold keyOf at h
    simp only [Try.underlying52] at h
    cases e : v.formed Try.prog 52
    · rw [e] at h; simp at h
    · rfl
  cases v <;> simp only [Value.formed, Try.underlying52, Bool.false_eq_true] at hf
  rename_i cs
  rw [hc] at hf
  have hs : cs.size = 2 := by simpa using hf
  obtain ⟨a, b, rfl⟩ : ∃ a b, cs = #[a, b] := two_of_size cs hs
  rw [keyOf_agg] at h
  obtain ⟨d, hd⟩ := sizeP
  rw [hd, keyLits_C, keyLits_int, keyLits_int] at h
  split at h
  · split at h
    · split at h
      · exact ⟨(_, _), rfl⟩
      · simp at h
    · simp at h
  · simp at h

theorem isKey_inj {c d : Int × Int} {kl : Lit} (h1 : IsKey c kl) (h2 : IsKey d kl) : c = d := by
  have h := keyC.inj h1 h2
  simp only [aggC, Value.agg.injEq] at h
  have h' := congrArg Array.toList h
  simp at h'
  exact Prod.ext h'.1 h'.2

theorem isKey_one {c : Int × Int} {k l : Lit} (h1 : IsKey c k) (h2 : IsKey c l) : k = l := by
  unfold IsKey at h1 h2
  rw [h1] at h2
  exact Option.some.inj h2

theorem plainElem_bool_inv {P : Program} {e : TypeId} (he : P.underlying e = some .bool) {v : Value} {y : DataW Unit × List MemPlace} (h : plainElem P e v = some y) : ∃ b : Bool, v = .bool b := by
  unfold plainElem at h
  rw [he] at h
  cases v <;> simp at h
  exact ⟨_, rfl⟩

theorem elemB_inv {v : Value} {y : DataW Unit × List MemPlace} (h : plainElem Try.prog 4 v = some y) : ∃ b : Bool, v = .bool b := plainElem_bool_inv Try.underlying4 h

noncomputable abbrev elemB : Value → Option (DataW Unit × List MemPlace) := plainElem Try.prog 4

theorem elemB_mk (b : Bool) : elemB (.bool b) = some (.lit (.bool b), []) := plainElem_bool Try.underlying4 b

/-- Block b is a map of at most n entries whose keys are the chords xs. -/
def SetC (w : World) (b n : Nat) (xs : List (Int × Int)) : Prop :=
  ∃ D, w.ownsMap Try.prog 52 elemB b n D ∧ (∀ c kl, IsKey c kl → (has D kl = true ↔ c ∈ xs)) ∧ ∀ c ∈ xs, ∃ kl, IsKey c kl

theorem SetC.keep {w w' : World} {b n : Nat} {xs : List (Int × Int)} (h : SetC w b n xs) (hb : w'.heap[b]? = w.heap[b]?) : SetC w' b n xs := by
  obtain ⟨D, ⟨es, clock, hm, r⟩, h2⟩ := h
  exact ⟨D, ⟨es, clock, hb.trans hm, r⟩, h2⟩

theorem SetC.lt {w : World} {b n : Nat} {xs : List (Int × Int)} (h : SetC w b n xs) : b < w.heap.size := by
  obtain ⟨D, h1, _⟩ := h
  exact h1.lt

theorem SetC.made (w : World) : SetC (w.alloc (.map #[] 0)) w.heap.size 0 [] :=
  ⟨_, World.ownsMap_made w _ _ _, fun c kl _ => by simp [has_eq], fun c hc => by simp at hc⟩

/-- 'm[c] = true' -/
theorem SetC.put {w w' : World} {b n : Nat} {xs : List (Int × Int)} {D : DataW Unit} {c : Int × Int} {kl : Lit} {d : DataW Unit} (hD : w.ownsMap Try.prog 52 elemB b n D)
    (h1 : ∀ c kl, IsKey c kl → (has D kl = true ↔ c ∈ xs)) (h2 : ∀ c ∈ xs, ∃ kl, IsKey c kl) (hk : IsKey c kl) (h : w'.ownsMap Try.prog 52 elemB b (n + 1) (D.put kl d)) : SetC w' b (n + 1) (xs ++ [c]) := by
  refine ⟨_, h, fun x k hx => ?_, fun x hx => ?_⟩
  · by_cases e : x = c
    · subst e
      have := isKey_one hx hk
      subst this
      rw [has_put_same hD.isMap (keyC.key hk)]
      simp
    · rw [has_put_other (show k ≠ kl from fun e' => e (isKey_inj hx (by rw [e']; exact hk))), h1 x k hx]
      simp [e]
  · rw [List.mem_append, List.mem_singleton] at hx
    rcases hx with hx | rfl
    · exact h2 x hx
    · exact ⟨_, hk⟩

/-- What has been told of a set, as a function of what is still to come. -/
def ToldC (D : DataW Unit) (left : Lit → Bool) (ys : List (Int × Int)) : Prop :=
  ys.Nodup ∧ (∀ c kl, IsKey c kl → (c ∈ ys ↔ has D kl = true ∧ left kl = false)) ∧ (∀ c ∈ ys, ∃ kl, IsKey c kl) ∧ ∀ kl, left kl = true → has D kl = true

theorem toldC_start (D : DataW Unit) : ToldC D (has D) [] :=
  ⟨List.nodup_nil, fun c kl _ => by simp, fun c hc => by simp at hc, fun _ h => h⟩

theorem toldC_step {D : DataW Unit} {left : Lit → Bool} {ys : List (Int × Int)} {c : Int × Int} {kl : Lit} (h : ToldC D left ys) (hk : IsKey c kl) (hl : left kl = true) : ToldC D (fun z => left z && !z.sameKey kl) (ys ++ [c]) := by
  obtain ⟨h1, h2, h3, h4⟩ := h
  refine ⟨?_, fun x k hx => ?_, fun x hx => ?_, fun k hk' => h4 k (by simp at hk'; exact hk'.1)⟩
  · rw [List.nodup_append]
    refine ⟨h1, by simp, fun x hx y hy => ?_⟩
    rw [List.mem_singleton] at hy
    subst hy
    rintro rfl
    have := (h2 x kl hk).1 hx
    rw [hl] at this
    cases this.2
  · by_cases e : x = c
    · subst e
      have := isKey_one hx hk
      subst this
      simp [WideAt.sameKey_self (keyC.key hk), h4 k hl]
    · have hne : k ≠ kl := fun e' => e (isKey_inj hx (by rw [e']; exact hk))
      show _ ↔ has D k = true ∧ (left k && !k.sameKey kl) = false
      rw [List.mem_append, List.mem_singleton, h2 x k hx, sameKey_ne hne]
      simp [e]
  · rw [List.mem_append, List.mem_singleton] at hx
    rcases hx with hx | rfl
    · exact h3 x hx
    · exact ⟨_, hk⟩

theorem toldC_end {D : DataW Unit} {left : Lit → Bool} {xs ys : List (Int × Int)} (h : ToldC D left ys) (h1 : ∀ c kl, IsKey c kl → (has D kl = true ↔ c ∈ xs)) (h2 : ∀ c ∈ xs, ∃ kl, IsKey c kl) (hl : ∀ kl, left kl = false) : ys.Nodup ∧ ∀ c, c ∈ ys ↔ c ∈ xs := by
  refine ⟨h.1, fun c => ⟨fun hc => ?_, fun hc => ?_⟩⟩
  · obtain ⟨kl, hk⟩ := h.2.2.1 c hc
    exact (h1 c kl hk).1 ((h.2.1 c kl hk).1 hc).1
  · obtain ⟨kl, hk⟩ := h2 c hc
    exact (h.2.1 c kl hk).2 ⟨(h1 c kl hk).2 hc, hl kl⟩

end Go.Proofs.Ytnldnjgnpdicnaa

namespace Go.Proofs.Ytnldnjgnpdicnaa
open Go.RowKit Go.Sort Go.Shelf
set_option linter.unusedVariables false

/-- The chords sorted. -/
def sortL (xs : List (Int × Int)) : List (Int × Int) := xs.mergeSort fun x y => !lessC y x

theorem mem_sortL (xs : List (Int × Int)) (x : Int × Int) : x ∈ sortL xs ↔ x ∈ xs := (List.mergeSort_perm xs _).mem_iff

theorem sortL_length (xs : List (Int × Int)) : (sortL xs).length = xs.length := (List.mergeSort_perm xs _).length_eq

theorem sortL_sorted (xs : List (Int × Int)) (h : xs.Nodup) : SortedC (sortL xs) := by
  have h1 : (sortL xs).Pairwise fun x y => (!lessC y x) = true := by
    refine List.pairwise_mergeSort ?_ ?_ xs
    · intro a b c hab hbc
      simp only [Bool.not_eq_true'] at *
      cases e : lessC c a with
      | false => rfl
      | true =>
        rcases lessC_total b a with h | h | h
        · rw [h] at hab; cases hab
        · rw [h, e] at hbc; cases hbc
        · rw [lessC_trans e h] at hbc; cases hbc
    · intro a b
      cases e : lessC b a with
      | false => rfl
      | true =>
        cases f : lessC a b with
        | false => rfl
        | true => exact absurd (lessC_trans e f) (lessC_irrefl _)
  have h2 : (sortL xs).Nodup := (List.mergeSort_perm xs _).nodup_iff.2 h
  unfold SortedC
  refine (List.Pairwise.and h1 h2).imp fun {x y} hxy => ?_
  rcases lessC_total x y with h | h | h
  · exact h
  · exact absurd h hxy.2
  · have := hxy.1
    rw [h] at this
    cases this

def encC (x : Int × Int) : List Value := [.int .i64 x.1, .int .i64 x.2]

theorem flatK_pairs (xs : List (Int × Int)) : flatK encC 2 xs.toArray = ((flatP xs).map (Value.int .i64)).toArray := by
  apply Array.ext
  · simp [flatP_length]
  · intro t h1 h2
    have ht : t < xs.length * 2 := by simpa using h1
    rw [← getElem!_pos (flatK encC 2 xs.toArray) t h1, get_flatK _ _ _ _ (by simpa using ht)]
    have hd : t / 2 < xs.length := by omega
    have hg : xs.toArray[t / 2]! = xs.getD (t / 2) (0, 0) := by simp [hd, List.getD]
    rw [hg]
    simp only [List.getElem_toArray, List.getElem_map]
    rcases Nat.mod_two_eq_zero_or_one t with e | e
    · have h0 := flatP_get0 xs (t / 2)
      rw [show t / 2 * 2 = t by omega, List.getD_eq_getElem?_getD, List.getElem?_eq_getElem (by rw [flatP_length]; omega)] at h0
      simp only [Option.getD_some] at h0
      rw [e, h0]
      rfl
    · have h0 := flatP_get1 xs (t / 2)
      rw [show t / 2 * 2 + 1 = t by omega, List.getD_eq_getElem?_getD, List.getElem?_eq_getElem (by rw [flatP_length]; omega)] at h0
      simp only [Option.getD_some] at h0
      rw [e, h0]
      rfl

theorem holds_vals {w : World} {g : Nat} {cur : Array Value} {e : TypeId} {vs : List Value} (hb : w.heap[g]? = some (.cells cur e (0, 0))) (ht : cur.toList.take vs.length = vs) : Holds id w g 0 vs.toArray := by
  intro j hj
  have hj' : j < vs.length := by simpa using hj
  refine ⟨?_, by simp [World.frozen?, hb]⟩
  have h1 : (cur.toList.take vs.length)[j]? = vs[j]? := by rw [ht]
  rw [List.getElem?_take_of_lt hj'] at h1
  simp only [World.cell?, hb, Nat.zero_add]
  simp only [Option.isSome_none, Bool.false_eq_true, if_false]
  rw [← Array.getElem?_toList, h1]
  simp [hj']

theorem heap_vals {w : World} {g n : Nat} {os : Array Obj} {cur : Array Value} {e : TypeId} {fr : Nat × Nat} (d : Array Value) (hb : w.heap[g]? = some (.cells cur e fr)) :
    (grow (putRow id (Sort.ahead w n) g 0 d) os).heap[g]? = some (.cells (putCells id 0 d cur) e fr) := by
  have hg : g < w.heap.size := (Array.getElem?_eq_some_iff.1 hb).1
  rw [heap_grow_old _ _ (by simpa using hg)]
  simp [putRow, mapBlock, Sort.ahead, Array.getElem?_modify, hb, onCells]

theorem grownBy_vals {w : World} {g n : Nat} {os : Array Obj} (d : Array Value) : w.grownBy (grow (putRow id (Sort.ahead w n) g 0 d) os) (some g) := by
  refine ⟨rfl, rfl, rfl, by simp, fun k hk hne => ?_⟩
  rw [heap_grow_old _ _ (by simpa using hk)]
  have : g ≠ k := fun e => hne (by rw [e])
  simp [putRow, mapBlock, Sort.ahead, Array.getElem?_modify, this]

theorem take_vals (cur : Array Value) (ts : List Value) (h : ts.length ≤ cur.size) : (putCells id 0 ts.toArray cur).toList.take ts.length = ts := by
  apply List.ext_getElem?
  intro j
  by_cases hj : j < ts.length
  · rw [List.getElem?_take_of_lt hj, Array.getElem?_toList]
    simp [putCells, hj, show j < cur.size by omega]
  · rw [List.getElem?_take_eq_none (by omega), List.getElem?_eq_none (by omega)]

def cfC (x y : Int × Int) : Int := cmpC x.1 x.2 y.1 y.2

theorem lt_cfC : ltOf cfC = lessC := by
  funext x y
  obtain ⟨a, b⟩ := x
  obtain ⟨c, d⟩ := y
  unfold ltOf cfC lessC cmpC cmpI
  rw [decide_eq_decide]
  show (if (if a < c then (-1 : Int) else if c < a then 1 else 0) ≠ 0 then (if a < c then (-1 : Int) else if c < a then 1 else 0) else (if b < d then (-1 : Int) else if d < b then 1 else 0)) < 0 ↔ (a < c ∨ (a = c ∧ b < d))
  split <;> split <;> (try split) <;> (try split) <;> omega

theorem swoC : SWO lessC where
  irrefl x := by cases e : lessC x x with | false => rfl | true => exact absurd e (lessC_irrefl x)
  trans x y z h1 h2 := lessC_trans h1 h2
  ntrans x y z h1 h2 := by
    cases e : lessC x z with
    | false => rfl
    | true =>
      rcases lessC_total x y with h | h | h
      · rw [h] at h1; cases h1
      · rw [← h, e] at h2; cases h2
      · rw [lessC_trans h e] at h2; cases h2

theorem totC : ∀ x y, lessC x y = false → lessC y x = false → x = y := by
  intro x y h1 h2
  rcases lessC_total x y with h | h | h
  · rw [h] at h1; cases h1
  · exact h
  · rw [h] at h2; cases h2

set_option maxHeartbeats 1000000 in
theorem sortC_any (v : Value) (xs : List (Int × Int)) (B : Nat) (w : World) (h : Pairs w B 52 v xs) (hn : xs.length ≤ 1000000) :
    Calls Try.prog 110 #[v, .func (.func 111) #[] #[]] w fun e w' => e = .returned (.tuple #[]) ∧ Pairs w' B 52 v (sortL xs) ∧ w.grownBy w' v.ownBlock := by
  obtain ⟨hlen, ⟨rfl, hn0⟩ | ⟨g, cap, cur, rfl, hB, hg, hnc, hcm, hs, ht⟩⟩ := h
  · have hx : xs = [] := List.eq_nil_of_length_eq_zero hn0
    subst hx
    refine (show Calls Try.prog 110 _ w _ from AnyF.slices_SortFunc_none Try.sortC none 0 (.func (.func 111) #[] #[]) w).mono fun e w' ⟨he, hw⟩ => ?_
    subst hw
    exact ⟨he, by simp [sortL]; exact World.ownsRow_nil _ _ _ _, grownBy_refl _ _⟩
  · have hF := flatK_pairs xs
    have hvl : ((flatP xs).map (Value.int .i64)).length = xs.length * 2 := by simp [flatP_length]
    have hH : HoldsK encC 2 w g 0 xs.toArray := by
      unfold HoldsK
      rw [hF]
      exact holds_vals hg (by rw [hvl]; exact ht)
    have eg : ∀ args w, (callFunc 111 args).run Try.prog w = .ok (.enter 111 args) w := enters_of Try.func111 (by kernel_rfl) rfl
    have hcon := AnyQ.slices_SortFunc_total Try.sortC 2 Try.isAgg52 Try.sizeOf52 encC (fun _ => rfl) (fun x v hv => by simp [encC] at hv; rcases hv with rfl | rfl <;> rfl) cfC (by rw [lt_cfC]; exact swoC) 111 #[] g 0 cap xs.toArray w eg
      (fun m os dk _ x y => compareChords_any x.1 x.2 y.1 y.2 _) hH (Array.getElem?_eq_some_iff.1 hg).1 (by simp; omega) (by rw [lt_cfC]; exact totC)
    change Calls Try.prog 110 _ _ _ at hcon
    simp only [List.size_toArray] at hcon
    refine hcon.mono fun e w' ⟨he, n, os, hw⟩ => ?_
    rw [lt_cfC] at hw
    have hsl : (xs.toArray.toList.mergeSort fun x y => !lessC y x) = sortL xs := rfl
    rw [hsl] at hw
    unfold sortWorldK putRowK at hw
    rw [flatK_pairs] at hw
    subst hw
    have hl2 : ((flatP (sortL xs)).map (Value.int .i64)).length = xs.length * 2 := by simp [flatP_length, sortL_length]
    refine ⟨he, ⟨by rw [hl2, sortL_length], .inr ⟨g, cap, _, by rw [sortL_length], hB, heap_vals _ hg, by rw [sortL_length]; exact hnc, hcm, by simp [putCells, hs], ?_⟩⟩, grownBy_vals _⟩
    have := take_vals cur ((flatP (sortL xs)).map (Value.int .i64)) (by rw [hl2, hs]; omega)
    rw [hl2] at this
    rw [sortL_length]
    exact this

end Go.Proofs.Ytnldnjgnpdicnaa

namespace Go.Proofs.Ytnldnjgnpdicnaa
open Go.RowKit Go.Maps
set_option linter.unusedVariables false

theorem ranges_apart {w : World} {b r n B : Nat} {e : TypeId} {D : DataW Unit} {left : Lit → Bool} {cnt : Nat} {v : Value} {xs : List (Int × Int)} (h : w.ranges Try.prog 52 elemB b r n D left cnt) (hI : Pairs w B e v xs) : v.ownBlock ≠ some r := by
  obtain ⟨es, clock, since, seen, c0, _, _, _, _, hr, _⟩ := h
  rcases hI.2 with ⟨rfl, _⟩ | ⟨g, cap, cur, rfl, _, hg, _⟩
  · simp [Value.ownBlock]
  · simp only [Value.ownBlock, ne_eq, Option.some.injEq]
    rintro rfl
    rw [hr] at hg
    cases hg

theorem Pairs.grown {w w' : World} {B : Nat} {e : TypeId} {v : Value} {xs : List (Int × Int)} {row : Option Nat} (h : Pairs w B e v xs) (hg : w.grownBy w' row) (hne : v.ownBlock = none ∨ v.ownBlock ≠ row) : Pairs w' B e v xs :=
  World.ownsRow.kept h hg hne

theorem box_grown {w1 w2 : World} {B : Nat} {e : TypeId} {v : Value} {xs : List (Int × Int)} (hI : Pairs w1 B e v xs) (o : Obj) (hg : (w1.alloc o).grownBy w2 v.ownBlock) : w2.heap[w1.heap.size]? = some o :=
  (hg.block _ (by simp) (fun e => by have := (hI.own _ e.symm).2; omega)).trans (heap_alloc_new w1 o)

/-- The step of a loop over a set of chords. -/
theorem next_chords (w : World) {ops : Array Oper} {rest : List Oper} {o : Oper} {a : Act} {Q : Exit → Act → World → Prop} (hg : o.guard = none) (it : Operand) (hop : o.op = Op.next it false) (b r n : Nat) (D : DataW Unit) (left : Lit → Bool) (cnt : Nat)
    (hit : a.eval it = .pointer (some ⟨r, 0, none⟩)) (h : w.ranges Try.prog 52 elemB b r n D left cnt)
    (hDone : (∀ kl, left kl = false) → wpList Try.prog ops Q rest (a.put o.dst (.tuple #[.bool false])) w)
    (hMore : ∀ (c1 c2 : Int) (u : Value) (kl : Lit) (w' : World) (cnt' : Nat), IsKey (c1, c2) kl → left kl = true → w'.ranges Try.prog 52 elemB b r n D (fun z => left z && !z.sameKey kl) cnt' → cnt' < cnt →
      w.grownBy w' (some r) → w'.heap.size = w.heap.size → (Instr.entry (.pointer (some ⟨r, 0, none⟩))).run Try.prog w' = .ok (.tuple #[.agg #[.int .i64 c1, .int .i64 c2], u]) w' → wpList Try.prog ops Q rest (a.put o.dst (.tuple #[.bool true, .agg #[.int .i64 c1, .int .i64 c2], u])) w') :
    wpList Try.prog ops Q (o :: rest) a w :=
  wpList_next_ranges w hg it hop 52 keyC elemB aggC (fun v : Value => v) (fun key kl hkey => isKey_inv hkey) (fun v y _ => ⟨v, rfl⟩) b r n D left cnt hit h (fun _ hl => hDone hl)
    (fun c u kl y w' cnt' hkey hlk _ _ hrg hlt hgr hsz hen => hMore c.1 c.2 u kl w' cnt' hkey hlk hrg hlt hgr hsz hen)

set_option maxHeartbeats 1000000 in
set_option maxRecDepth 100000 in
theorem emptyInOrder_any (b n : Nat) (xs : List (Int × Int)) (w : World) (h : SetC w b n xs) (hn : n ≤ 1000) :
    Calls Try.prog 91 #[.map (some b)] w fun e w' => ∃ v ys, e = .returned v ∧ PairsIn 52 w' w.heap.size w'.heap.size v ys ∧ SortedC ys ∧ (∀ x, x ∈ ys ↔ x ∈ xs) ∧ Below b w w' := by
  have hbl := h.lt
  obtain ⟨D, hown, hk1, hk2⟩ := h
  have K1 := Lib.hid hk1
  have K2 := Lib.hid hk2
  clear hk1 hk2
  have hsz := hown.size_le
  obtain ⟨m, hm⟩ : ∃ m, m = Maps.size D := ⟨_, rfl⟩
  have hmn : m ≤ n := by omega
  have HM := Lib.hid hm
  clear hm
  have hmk := make_pairs0 (P := Try.prog) Try.underlying24 info_chord m (by omega)
  go_enter Try.func91, Try.ntmps91
  go_wp2_with (first
    | (at_len; refine wpList_len_own _ rfl _ 112 rfl 52 4 Try.underlying112 _ b n D rfl hown ?_; rw [← HM.out])
    | (at_range; refine wpList_range_own _ rfl _ 112 rfl 52 4 keyC Try.underlying112 _ b n _ rfl (hown.alloc _) ?_; intro w0 hrg0 hg0 hs0))
  rw [World.size_alloc] at hrg0
  have hp0 := (Pairs.made0 w w.heap.size 52 m (Nat.le_refl _) (by omega)).grown hg0 (Or.inr (by simp [Value.ownBlock]))
  have hB0 : Below b w w0 := (((Below.refl b w).alloc (by omega) _)).grown hg0 (by simp; omega) (fun k hk => by simp at hk)
  have hs0' : w0.heap.size = w.heap.size + 2 := by rw [hs0, World.size_alloc]
  have HRG0 := Lib.hid hrg0
  have HP0 := Lib.hid hp0
  clear hrg0 hp0 hg0 hs0 hown
  go_frame
  rw [World.size_alloc]
  go_loopw [3] (fun l wr => ∃ left cnt D' ys, wr.ranges Try.prog 52 elemB b (w.heap.size + 1) n D' left cnt ∧ Pairs wr w.heap.size 52 l ys ∧ ToldC D left ys ∧ ys.length + cnt ≤ n ∧ Below b w wr ∧ w.heap.size + 2 ≤ wr.heap.size) (fun _ wr => wr.rangeLeft b (w.heap.size + 1))
  case atStart => exact ⟨_, _, _, [], HRG0.out, HP0.out, toldC_start D, by simp; omega, hB0, by omega⟩
  case round =>
    obtain ⟨left, cnt, D', ys, hrg, hI, hT, hlen, hB, hz⟩ := hrel
    have HI := Lib.hid hI
    have HT := Lib.hid hT
    clear HRG0 HP0 hB0 hs0' hI hT
    go_wp2_with (first
      | (at_next; refine next_chords _ rfl _ rfl b (w.heap.size + 1) n _ _ _ rfl hrg ?_ ?_))
    · intro hl0
      have hend := toldC_end HT.out K1.out K2.out hl0
      have HEND := Lib.hid hend
      have hle : ys.length ≤ 1000000 := by omega
      clear hend hl0
      go_wp2_with (first | (go_at_call 110; go_loud (refine (sortC_any _ ys w.heap.size _ HI.out hle).mono ?_); rintro e w2 ⟨rfl, hp2, hg2⟩; have HP2 := Lib.hid hp2; have HG2 := Lib.hid hg2; clear hp2 hg2))
      go_ret
      exact ⟨_, sortL ys, rfl, HP2.out.inn, sortL_sorted ys HEND.out.1, fun x => (mem_sortL ys x).trans (HEND.out.2 x), hB.grown HG2.out (by omega) (fun k hk => by have := HI.out.own k hk; omega)⟩
    · intro c1 c2 u kl w1 cnt1 hkey hlk hrg1 hlt hg1 hs1 hen
      have hap := ranges_apart hrg HI.out
      have hI1 := HI.out.grown hg1 (Or.inr hap)
      have hB1 : Below b w w1 := hB.grown hg1 (by omega) (fun k hk => by cases hk; omega)
      have hT1 := toldC_step HT.out hkey hlk
      have HT1 := Lib.hid hT1
      have HI1 := Lib.hid hI1
      have HB1 := Lib.hid hB1
      have HL := Lib.hid (show w.heap.size + 2 ≤ w1.heap.size by omega)
      have HR1 := Lib.hid hrg1
      have HKEY := Lib.hid hkey
      have hle : ys.length < 1000000000 := by omega
      have HS1 := Lib.hid hs1
      clear hap hI1 hB1 hT1 hlk hrg1 hkey hs1
      go_wp2_with (first
        | (at_builtin; refine wpList_append_pair rfl _ _ 24 rfl w.heap.size 52 Try.underlying24 info_chord _ ys rfl (HI1.out.grown (World.grownBy_alloc _ _ none) (by cases hv : (_ : Value).ownBlock with | none => exact .inl rfl | some k => exact .inr (by simp))) c1 c2 (by rw [World.size_alloc]; rfl) hle (by have := HL.out; simp; omega) ?_; intro v2 w2 hI2 hg2; have HI2 := Lib.hid hI2; have HG2 := Lib.hid hg2; (have hbx := box_grown HI1.out _ hg2); (have e0 : w2.cell? ⟨w1.heap.size, 0, none⟩ = some (.int .i64 c1) := cell_of_row _ _ 0 _ _ _ hbx); (have e1 : w2.cell? ⟨w1.heap.size, 1, none⟩ = some (.int .i64 c2) := cell_of_row _ _ 1 _ _ _ hbx); (have HR2 := Lib.hid ((HR1.out.alloc (.cells #[.int .i64 c1, .int .i64 c2] 52)).kept hg2 (fun e => by have := HI1.out.own _ e.symm; omega) (fun e => ranges_apart HR1.out HI1.out e.symm))); clear hI2 hg2 hbx)
        | (at_delete; refine wpList_delete_ranges _ rfl _ _ 112 52 rfl 4 keyC Try.underlying112 _ b (w.heap.size + 1) n _ _ _ rfl HR2.out (.agg #[.int .i64 c1, .int .i64 c2]) kl rfl HKEY.out ?_; intro w3 cnt3 hrg3 hle3 hturn; have HR3 := Lib.hid hrg3; have HT3 := Lib.hid hturn; clear hrg3 hturn; go_frame))
      have hrg3 := HR3.out
      rw [strike_twice] at hrg3
      have hgr := HT3.out.grown
      have hsz2 := HG2.out.size
      rw [World.size_alloc] at hsz2
      have hI3 := HI2.out.grown hgr (by
        cases hv : v2.ownBlock with
        | none => exact .inl rfl
        | some k => exact .inr (fun e => by have := HI2.out.own k hv; cases e; omega))
      have hB2 : Below b w w2 := (HB1.out.alloc (by have := HL.out; omega) _).grown HG2.out (by have := HL.out; simp; omega) (fun k hk => by have := HI1.out.own k hk; omega)
      have hB3 := hB2.grown hgr (by have := HL.out; omega) (fun k hk => by cases hk; omega)
      have hz3 := hgr.size
      go_roundw
      case rel => exact ⟨_, cnt3, _, ys ++ [(c1, c2)], hrg3, hI3, HT1.out, by rw [List.length_append]; simp; omega, hB3, by have := HL.out; omega⟩
      case measure => rw [hrg3.left_eq, hrg.left_eq]; omega

end Go.Proofs.Ytnldnjgnpdicnaa

namespace Go.Proofs.Ytnldnjgnpdicnaa
open Go.RowKit Go.Maps
set_option linter.unusedVariables false

set_option maxHeartbeats 400000 in
theorem chordBetween_any (a b : Int) (w : World) :
    Calls Try.prog 90 #[.int .i64 a, .int .i64 b] w fun e w' => e = .returned (.agg #[.int .i64 (min a b), .int .i64 (max a b)]) ∧ Below w.heap.size w w' := by
  rcases Int.lt_trichotomy a b with h | h | h
  · have h1 : min a b = a := by omega
    have h2 : max a b = b := by omega
    have h3 : ¬ b < a := by omega
    go_enter Try.func90, Try.ntmps90
    go_wp2
    go_returns
    exact ⟨rfl, by go_grown⟩
  · subst h
    have h1 : min a a = a := by omega
    have h2 : max a a = a := by omega
    go_enter Try.func90, Try.ntmps90
    go_wp2
    go_returns
    exact ⟨by rw [h1, h2], by go_grown⟩
  · have h1 : min a b = b := by omega
    have h2 : max a b = a := by omega
    have h3 : ¬ a < b := by omega
    go_enter Try.func90, Try.ntmps90
    go_wp2
    go_returns
    exact ⟨rfl, by go_grown⟩

/-- The chords of the first so many lines of a turned star. -/
def linesT (p s t k : Nat) : List (Int × Int) := (List.range k).map fun q => lineC p s ((q + t) % p)

theorem linesT_succ (p s t k : Nat) : linesT p s t (k + 1) = linesT p s t k ++ [lineC p s ((k + t) % p)] := by
  simp [linesT, List.range_succ]

theorem mem_linesT (p s t k : Nat) (x : Int × Int) : x ∈ linesT p s t k ↔ ∃ q, q < k ∧ lineC p s ((q + t) % p) = x := by
  simp [linesT]

set_option maxHeartbeats 1000000 in
set_option maxRecDepth 100000 in
theorem iTurnedStar_yes (p s t : Nat) (w : World) (h : 3 ≤ p ∧ p ≤ 60 ∧ 1 ≤ s ∧ s < p) (ht : t < p) :
    Calls Try.prog 37 #[.agg #[.int .i64 p, .int .i64 s], .int .i64 t] w (Gives (PairsIn 52) w (starC p s) true) := by
  have g : 3 ≤ (p : Int) ∧ (p : Int) ≤ 60 ∧ 1 ≤ (s : Int) ∧ (s : Int) < p := by omega
  have hmm := @run_makeMap Try.prog
  obtain ⟨h1, h2, h3, h4⟩ := h
  go_enter Try.func37, Try.ntmps37
  go_wp2_with (first | (go_at_call 78; (with_reducible refine (isStar_yes _ _ _ g).mono ?_); rintro e w1 ⟨rfl, hb⟩; (have c0 : w1.cell? ⟨w.heap.size, 0, none⟩ = some (.int .i64 p) := cellB hb (by first | assumption | go_simp)); (have c1 : w1.cell? ⟨w.heap.size, 1, none⟩ = some (.int .i64 s) := cellB hb (by first | assumption | go_simp)); (have hz : w.heap.size < w1.heap.size := by (have := hb.size; (try simp at this); omega)); (have hB : Below w.heap.size w w1 := by (refine Below.trans ?_ (hb.mono (by first | (simp; done) | omega | (simp; omega))); go_grown)); clear hb) | (go_at_call 89; (with_reducible refine (isPoint_yes _ _ _ (by omega)).mono ?_); rintro e w1 ⟨rfl, rfl⟩))
  have HM := Lib.hid (SetC.made w1)
  clear hmm
  go_loopw [22] (fun i wr => ∃ k : Nat, k ≤ p ∧ i = .int .i64 k ∧ SetC wr w1.heap.size k (linesT p s t k) ∧ Below w.heap.size w wr ∧ wr.cell? ⟨w.heap.size, 0, none⟩ = some (.int .i64 p) ∧ wr.cell? ⟨w.heap.size, 1, none⟩ = some (.int .i64 s)) (fun i _ => p - (intOf i).toNat)
  case atStart => exact ⟨0, by omega, rfl, HM.out, hB.alloc (by omega) _, by go_simp, by go_simp⟩
  case round =>
    obtain ⟨k, hk, rfl, hS, hBk, p0, p1⟩ := hrel
    have hzk := hBk.size
    have hbl := hS.lt
    clear HM c0 c1 hB
    by_cases hlt : k < p
    · obtain ⟨r, hr⟩ : ∃ r, r = (k + t) % p := ⟨_, rfl⟩
      have hrp : r < p := by rw [hr]; exact Nat.mod_lt _ (by omega)
      obtain ⟨q, hq⟩ : ∃ q, q = (r + s) % p := ⟨_, rfl⟩
      have hqp : q < p := by rw [hq]; exact Nat.mod_lt _ (by omega)
      have HN := Lib.hid (show linesT p s t (k + 1) = linesT p s t k ++ [(min (r : Int) (q : Int), max (r : Int) (q : Int))] by rw [linesT_succ, ← hr, hq]; rfl)
      have hs1 : 0 ≤ (k : Int) + (t : Int) := by omega
      have hs2 : 0 ≤ (r : Int) + (s : Int) := by omega
      have hm1 : ((k : Int) + (t : Int)) % (p : Int) = (r : Int) := by rw [hr]; norm_cast
      have hm2 : ((r : Int) + (s : Int)) % (p : Int) = (q : Int) := by rw [hq]; norm_cast
      have hpz : ¬ p = 0 := by omega
      have hpn : ¬ (p : Int) = 0 := by omega
      have ht1 : Int.tmod ((k : Int) + (t : Int)) (p : Int) = (r : Int) := by rw [Int.tmod_eq_emod_of_nonneg hs1]; exact hm1
      have ht2 : Int.tmod ((r : Int) + (s : Int)) (p : Int) = (q : Int) := by rw [Int.tmod_eq_emod_of_nonneg hs2]; exact hm2
      obtain ⟨kl, hkl⟩ := isKey_ex (min (r : Int) (q : Int), max (r : Int) (q : Int)) (WalkArith.wf_i64 (by omega)) (WalkArith.wf_i64 (by omega))
      have HKL := Lib.hid hkl
      obtain ⟨D, hown, hk1, hk2⟩ := hS
      have HO := Lib.hid hown
      have K1 := Lib.hid hk1
      have K2 := Lib.hid hk2
      clear hr hq hkl hown hk1 hk2
      go_wp2_with (first
        | (go_at_call 90; (with_reducible refine (chordBetween_any _ _ _).mono ?_); rintro e w2 ⟨rfl, hb2⟩; (have d0 := cellB hb2 p0); (have d1 := cellB hb2 p1); (have B2 := hBk.trans (hb2.mono hzk)); (have HO2 := Lib.hid (HO.out.kept (Below.by hb2) (by simp))); (have n2 := hb2.size))
        | (at_mapUpdate; refine wpList_mapUpdate_own _ rfl _ _ _ 112 rfl 52 4 keyC Try.underlying112 _ w1.heap.size k _ rfl HO2.out (by unfold maxLen; omega) _ _ kl rfl rfl HKL.out _ [] (elemB_mk true) ?_; intro w3 hown3 hg3; have HO3 := Lib.hid hown3; have HG3 := Lib.hid hg3; clear hown3 hg3; go_frame))
      have hS3 := SetC.put HO.out K1.out K2.out HKL.out HO3.out
      rw [← HN.out] at hS3
      have f0 : w3.cell? ⟨w.heap.size, 0, none⟩ = some (.int .i64 p) := (World.cell?_of_block (HG3.out.block w.heap.size (by omega) (by simp; omega))).trans d0
      have f1 : w3.cell? ⟨w.heap.size, 1, none⟩ = some (.int .i64 s) := (World.cell?_of_block (HG3.out.block w.heap.size (by omega) (by simp; omega))).trans d1
      have B3 := B2.grown HG3.out (by omega) (fun j hj => by cases hj; omega)
      go_roundw
      case rel => exact ⟨k + 1, by omega, by go_num, hS3, B3, f0, f1⟩
      case measure => simp [intOf]; omega
    · obtain rfl : k = p := by omega
      have HS := Lib.hid hS
      clear hS
      go_wp2_with (first
        | (go_at_call 91; refine (emptyInOrder_any w1.heap.size k _ _ HS.out (by omega)).mono ?_; rintro e w2 ⟨v2, ys, rfl, hp2, hso, hme, hb2⟩; have HP2 := Lib.hid hp2; have HSO := Lib.hid hso; have HME := Lib.hid hme; clear hp2 hso hme))
      have hys := starC_unique k s t (by omega) ht ys HSO.out (fun x => (HME.out x).trans (mem_linesT k s t k x))
      go_ret2
      exact givePairs true (hys ▸ HP2.out) hzk (hBk.trans (hb2.mono (by omega)))

set_option maxHeartbeats 400000 in
theorem iTurnedStar_no (p s t : Int) (w : World) (h : ¬ ((3 ≤ p ∧ p ≤ 60 ∧ 1 ≤ s ∧ s < p) ∧ (0 ≤ t ∧ t < p))) :
    Calls Try.prog 37 #[.agg #[.int .i64 p, .int .i64 s], .int .i64 t] w (Gives (PairsIn 52) w [] false) := by
  by_cases hg : 3 ≤ p ∧ p ≤ 60 ∧ 1 ≤ s ∧ s < p
  · have ht : ¬ (0 ≤ t ∧ t < p) := fun ht => h ⟨hg, ht⟩
    go_enter Try.func37, Try.ntmps37
    go_wp2_with (first | (go_at_call 78; (with_reducible refine (isStar_yes _ _ _ hg).mono ?_); rintro e w1 ⟨rfl, hb⟩; (have c0 : w1.cell? ⟨w.heap.size, 0, none⟩ = some (.int .i64 p) := cellB hb (by first | assumption | go_simp)); (have c1 : w1.cell? ⟨w.heap.size, 1, none⟩ = some (.int .i64 s) := cellB hb (by first | assumption | go_simp)); (have hz : w.heap.size < w1.heap.size := by (have := hb.size; (try simp at this); omega)); (have hB : Below w.heap.size w w1 := by (refine Below.trans ?_ (hb.mono (by first | (simp; done) | omega | (simp; omega))); go_grown)); clear hb) | (go_at_call 89; (with_reducible refine (isPoint_no _ _ _ ht).mono ?_); rintro e w1 ⟨rfl, rfl⟩))
    go_ret2
    exact ⟨_, rfl, PairsIn.nil _ _ _ _, hB⟩
  · go_enter Try.func37, Try.ntmps37
    go_wp2_with (first | (go_at_call 78; (with_reducible refine (isStar_no _ _ _ hg).mono ?_); rintro e w1 ⟨rfl, hb⟩; (have c0 : w1.cell? ⟨w.heap.size, 0, none⟩ = some (.int .i64 p) := cellB hb (by first | assumption | go_simp)); (have c1 : w1.cell? ⟨w.heap.size, 1, none⟩ = some (.int .i64 s) := cellB hb (by first | assumption | go_simp)); (have hz : w.heap.size < w1.heap.size := by (have := hb.size; (try simp at this); omega)); (have hB : Below w.heap.size w w1 := by (refine Below.trans ?_ (hb.mono (by first | (simp; done) | omega | (simp; omega))); go_grown)); clear hb))
    go_ret2
    exact ⟨_, rfl, PairsIn.nil _ _ _ _, hB⟩

end Go.Proofs.Ytnldnjgnpdicnaa

namespace Go.Proofs.Ytnldnjgnpdicnaa
open Go.RowKit
set_option linter.unusedVariables false

set_option maxHeartbeats 400000 in
theorem iChordsOf_yes (p s : Nat) (w : World) (h : 3 ≤ p ∧ p ≤ 60 ∧ 1 ≤ s ∧ s < p) :
    Calls Try.prog 24 #[.agg #[.int .i64 p, .int .i64 s]] w (Gives (PairsIn 52) w (starC p s) true) := by
  go_enter Try.func24, Try.ntmps24
  go_wp2_with (first | (go_at_call 37; refine (iTurnedStar_yes p s 0 _ h (by omega)).mono ?_; rintro e w2 ⟨v2, rfl, hp2, hb2⟩; simp only [World.size_alloc] at hb2 hp2))
  go_ret2
  exact givePairs true hp2 (by omega) (Below.trans (by go_grown) (hb2.mono (by omega)))

set_option maxHeartbeats 400000 in
theorem iChordsOf_no (p s : Int) (w : World) (h : ¬ (3 ≤ p ∧ p ≤ 60 ∧ 1 ≤ s ∧ s < p)) :
    Calls Try.prog 24 #[.agg #[.int .i64 p, .int .i64 s]] w (Gives (PairsIn 52) w [] false) := by
  go_enter Try.func24, Try.ntmps24
  go_wp2_with (first | (go_at_call 37; refine (iTurnedStar_no p s 0 _ (fun g => h g.1)).mono ?_; rintro e w2 ⟨v2, rfl, hp2, hb2⟩; simp only [World.size_alloc] at hb2 hp2))
  go_ret2
  exact ⟨_, rfl, hp2.wider (by omega) (Nat.le_refl _), Below.trans (by go_grown) (hb2.mono (by omega))⟩

end Go.Proofs.Ytnldnjgnpdicnaa

namespace Go.Proofs.Ytnldnjgnpdicnaa
open Go.RowKit
set_option linter.unusedVariables false

theorem Pairs.cap_le {w : World} {B n cap : Nat} {a : Option Addr} {e : TypeId} {xs : List (Int × Int)} (h : Pairs w B e (.slice a n cap) xs) : xs.length ≤ cap ∧ cap ≤ maxLen := by
  obtain ⟨hl, ⟨hv, hn⟩ | ⟨g, c, cur, hv, hB, hg, hn, hm, hs, ht⟩⟩ := h
  · cases hv
    exact ⟨by omega, by unfold maxLen; omega⟩
  · cases hv
    exact ⟨hn, hm⟩

theorem cntC_drop_take (c : Int × Int) (xs : List (Int × Int)) (i k : Nat) (h : i + 1 + k < xs.length) : cntC c ((xs.drop (i + 1)).take (k + 1)) = cntC c ((xs.drop (i + 1)).take k) + if crossP c (xs.getD (i + 1 + k) (0, 0)) then 1 else 0 := by
  rw [cntC_take c (xs.drop (i + 1)) k (by simp; omega), getD_drop]

set_option maxHeartbeats 1000000 in
theorem srCount_any (u : Value) (xs : List (Int × Int)) (B T : Nat) (w : World) (h : PairsIn 52 w B T u xs) (hc : ∀ k, k < xs.length → (xs.getD k (0, 0)).1 < (xs.getD k (0, 0)).2) (hn : xs.length ≤ 1000) :
    Calls Try.prog 76 #[u] w fun e w' => e = .returned (.int .i64 (pairsC xs : Nat)) ∧ Below w.heap.size w w' := by
  obtain ⟨a1, c1, g1, rfl, ha1, hmm, hx1, hy1⟩ := h.pairs.view
  have hle := pairsC_le xs
  have hle2 : xs.length * xs.length ≤ 1000 * 1000 := Nat.mul_le_mul hn hn
  obtain ⟨hcap1, hcap2⟩ := h.pairs.cap_le
  unfold maxLen at hcap2
  have X := Lib.hid hx1
  have Y := Lib.hid hy1
  have HA := Lib.hid ha1
  have HC := Lib.hid hc
  obtain ⟨tot, htot⟩ : ∃ tot, tot = pairsC xs := ⟨_, rfl⟩
  rw [← htot] at hle ⊢
  have HTOT := Lib.hid htot
  clear h ha1 hx1 hy1 hc htot
  go_enter Try.func76, Try.ntmps76
  go_wp2
  go_loopw [3, 10] (fun c i wr => ∃ k m : Nat, k ≤ xs.length ∧ i = .int .i64 k ∧ c = .int .i64 m ∧ m + pairsC (xs.drop k) = tot ∧ Below w.heap.size w wr) (fun _ i _ => xs.length - (intOf i).toNat)
  case atStart => exact ⟨0, 0, by omega, rfl, rfl, by rw [List.drop_zero, HTOT.out]; omega, by go_grown⟩
  case round =>
    obtain ⟨wo, rfl⟩ : ∃ z, z = wr := ⟨wr, rfl⟩
    obtain ⟨i, m, hi, rfl, rfl, hsum, hB⟩ := hrel
    have hz := hB.size
    by_cases hlt : i < xs.length
    · obtain rfl := HA.out (by omega)
      obtain ⟨x, hx⟩ : ∃ x, x = (xs.getD i (0, 0)).1 := ⟨_, rfl⟩
      obtain ⟨y, hy⟩ : ∃ y, y = (xs.getD i (0, 0)).2 := ⟨_, rfl⟩
      have hxy := HC.out i hlt
      have cx : wo.cell? ⟨g1, i * 2, none⟩ = _ := (hB.cell (p := ⟨g1, i * 2, none⟩) (World.block_lt_of_cell? w _ (X.out i hlt))).trans (X.out i hlt)
      have cy : wo.cell? ⟨g1, i * 2 + 1, none⟩ = _ := (hB.cell (p := ⟨g1, i * 2 + 1, none⟩) (World.block_lt_of_cell? w _ (Y.out i hlt))).trans (Y.out i hlt)
      rw [← hx] at cx hxy
      rw [← hy] at cy hxy
      have HS := Lib.hid (show m + (cntC (x, y) (xs.drop (i + 1)) + pairsC (xs.drop (i + 1))) = tot by rw [hx, hy, ← hsum, pairsC_drop xs i hlt])
      clear hx hy hsum
      have hw1 : IntKind.i64.wrap ((i : Int) + 1) = ((i + 1 : Nat) : Int) := by rw [IntKind.wrap_i64]; omega
      have b1 : (0 : Int) ≤ ((i + 1 : Nat) : Int) := by omega
      have b2 : ((i + 1 : Nat) : Int) ≤ (xs.length : Int) := by omega
      have HXY := Lib.hid hxy
      clear hxy
      go_wp2
      · obtain rfl : c1 = i + 1 := by omega
        have hm0 : xs.length - (i + 1) = 0 := by omega
        have hd0 : xs.drop (i + 1) = [] := List.drop_of_length_le (by omega)
        have hs0 := HS.out
        rw [hd0] at hs0
        rw [hm0]
        refine wp_loop_rounds 1 ?_
        rw [rounds_succ]
        go_wp2
        go_roundw
        case rel => exact ⟨i + 1, m, by omega, by go_num, rfl, by rw [hd0]; simpa [cntC, pairsC] using hs0, hB.alloc hz _⟩
        case measure => simp [intOf]; omega
      have e0 : (wo.alloc (.cells #[.int .i64 x, .int .i64 y] 52)).cell? ⟨wo.heap.size, 0, none⟩ = some (.int .i64 x) := by go_simp
      have e1 : (wo.alloc (.cells #[.int .i64 x, .int .i64 y] 52)).cell? ⟨wo.heap.size, 1, none⟩ = some (.int .i64 y) := by go_simp
      obtain ⟨n2, hn2⟩ : ∃ n2, n2 = xs.length - (i + 1) := ⟨_, rfl⟩
      rw [← hn2]
      go_loopw [3, 20] (fun c j wr => ∃ k m2 : Nat, k ≤ n2 ∧ j = .int .i64 k ∧ c = .int .i64 m2 ∧ m2 = m + cntC (x, y) ((xs.drop (i + 1)).take k) ∧ Below w.heap.size w wr ∧ wr.cell? ⟨wo.heap.size, 0, none⟩ = some (.int .i64 x) ∧ wr.cell? ⟨wo.heap.size, 1, none⟩ = some (.int .i64 y) ∧ wo.heap.size < wr.heap.size) (fun _ j _ => n2 - (intOf j).toNat)
      case atStart => exact ⟨0, m, by omega, rfl, rfl, by simp [cntC], hB.alloc hz _, e0, e1, by simp⟩
      case round =>
        obtain ⟨k, m2, hk, rfl, rfl, hm2, hBj, c0, c1, hz1⟩ := hrel
        clear e0 e1 cx cy
        have HM2 := Lib.hid hm2
        have hmt : m2 ≤ tot + 1000 := by
          have h1 := HS.out
          have h2 := cntC_le (x, y) ((xs.drop (i + 1)).take k)
          rw [List.length_take, List.length_drop] at h2
          omega
        by_cases hlk : k < n2
        · have hik : i + 1 + k < xs.length := by omega
          obtain ⟨x2, hx2⟩ : ∃ x, x = (xs.getD (i + 1 + k) (0, 0)).1 := ⟨_, rfl⟩
          obtain ⟨y2, hy2⟩ : ∃ y, y = (xs.getD (i + 1 + k) (0, 0)).2 := ⟨_, rfl⟩
          have hxy2 := HC.out (i + 1 + k) hik
          have dx : wr.cell? ⟨g1, (i + 1) * 2 + k * 2, none⟩ = some (.int .i64 x2) := by
            rw [show (i + 1) * 2 + k * 2 = (i + 1 + k) * 2 by omega, hx2]
            exact (hBj.cell (p := ⟨g1, (i + 1 + k) * 2, none⟩) (World.block_lt_of_cell? w _ (X.out _ hik))).trans (X.out _ hik)
          have dy : wr.cell? ⟨g1, (i + 1) * 2 + k * 2 + 1, none⟩ = some (.int .i64 y2) := by
            rw [show (i + 1) * 2 + k * 2 + 1 = (i + 1 + k) * 2 + 1 by omega, hy2]
            exact (hBj.cell (p := ⟨g1, (i + 1 + k) * 2 + 1, none⟩) (World.block_lt_of_cell? w _ (Y.out _ hik))).trans (Y.out _ hik)
          have hcp : crossP (x, y) (xs.getD (i + 1 + k) (0, 0)) = crossB x y x2 y2 := by unfold crossP; rw [hx2, hy2]
          have hstep := cntC_drop_take (x, y) xs i k hik
          rw [← hx2, ← hy2] at hxy2
          have HXY2 := Lib.hid hxy2
          clear hx2 hy2 hxy2 hm2 hn2
          have k1 : (0 : Int) ≤ (k : Int) := by omega
          have k2 : (k : Int) < (n2 : Int) := by omega
          cases hcr : crossB x y x2 y2 with
          | true =>
            have HS2 := Lib.hid (show cntC (x, y) ((xs.drop (i + 1)).take (k + 1)) = cntC (x, y) ((xs.drop (i + 1)).take k) + 1 by rw [hstep, hcp, hcr]; rfl)
            have HCR := Lib.hid hcr
            clear hstep hcp hcr
            go_wp2_with (first | (go_at_call 85; (with_reducible refine (srCross_any x y x2 y2 _ HXY.out HXY2.out).mono ?_); rintro e w1 ⟨rfl, hb⟩; rw [HCR.out]; (have c0 : w1.cell? ⟨wo.heap.size, 0, none⟩ = some (.int .i64 x) := cellB hb (by first | assumption | go_simp)); (have c1 : w1.cell? ⟨wo.heap.size, 1, none⟩ = some (.int .i64 y) := cellB hb (by first | assumption | go_simp)); (have hB1 : Below w.heap.size w w1 := by (refine Below.trans ?_ (hb.mono (by first | omega | (simp; omega))); go_grown)); (have hz1 : wo.heap.size < w1.heap.size := by have := hb.size; (try simp at this); omega); clear hb))
            go_roundw
            case rel => exact ⟨k + 1, m2 + 1, by omega, by go_num, by go_num, by rw [HS2.out]; have := HM2.out; omega, hB1, c0, c1, hz1⟩
            case measure => simp [intOf]; omega
          | false =>
            have HS2 := Lib.hid (show cntC (x, y) ((xs.drop (i + 1)).take (k + 1)) = cntC (x, y) ((xs.drop (i + 1)).take k) + 0 by rw [hstep, hcp, hcr]; rfl)
            have HCR := Lib.hid hcr
            clear hstep hcp hcr
            go_wp2_with (first | (go_at_call 85; (with_reducible refine (srCross_any x y x2 y2 _ HXY.out HXY2.out).mono ?_); rintro e w1 ⟨rfl, hb⟩; rw [HCR.out]; (have c0 : w1.cell? ⟨wo.heap.size, 0, none⟩ = some (.int .i64 x) := cellB hb (by first | assumption | go_simp)); (have c1 : w1.cell? ⟨wo.heap.size, 1, none⟩ = some (.int .i64 y) := cellB hb (by first | assumption | go_simp)); (have hB1 : Below w.heap.size w w1 := by (refine Below.trans ?_ (hb.mono (by first | omega | (simp; omega))); go_grown)); (have hz1 : wo.heap.size < w1.heap.size := by have := hb.size; (try simp at this); omega); clear hb))
            go_roundw
            case rel => exact ⟨k + 1, m2 + 0, by omega, by go_num, by go_num, by rw [HS2.out]; have := HM2.out; omega, hB1, c0, c1, hz1⟩
            case measure => simp [intOf]; omega
        · obtain rfl : k = n2 := by omega
          have hs0 := HS.out
          rw [List.take_of_length_le (by simp; omega)] at hm2
          go_wp2
          go_roundw
          case rel => exact ⟨i + 1, m2, by omega, by go_num, rfl, by omega, hBj⟩
          case measure => simp [intOf]; omega
    · obtain rfl : i = xs.length := by omega
      rw [List.drop_length] at hsum
      obtain rfl : m = tot := by simpa [pairsC] using hsum
      go_wp2
      go_ret
      exact ⟨rfl, hB⟩

end Go.Proofs.Ytnldnjgnpdicnaa

namespace Go.Proofs.Ytnldnjgnpdicnaa
open Go.RowKit
set_option linter.unusedVariables false

theorem flatP_take (xs : List (Int × Int)) (k : Nat) (h : k ≤ xs.length) : (flatP xs).take (k * 2) = flatP (xs.take k) := by
  have e := flatP_append (xs.take k) (xs.drop k)
  rw [List.take_append_drop] at e
  have hl : (flatP (xs.take k)).length = k * 2 := by rw [flatP_length, List.length_take, Nat.min_eq_left h]
  rw [e, List.take_append_of_le_length (by omega), List.take_of_length_le (by omega)]

theorem PairsIn.take {e : TypeId} {w : World} {B T g n cap k : Nat} {xs : List (Int × Int)} (h : PairsIn e w B T (.slice (some ⟨g, 0, none⟩) n cap) xs) (hk : k ≤ xs.length) : PairsIn e w B T (.slice (some ⟨g, 0, none⟩) k cap) (xs.take k) := by
  obtain ⟨⟨hl, ⟨hv, hn⟩ | ⟨g', c, cur, hv, hB, hg, hn, hm, hs, ht⟩⟩, ho⟩ := h
  · cases hv
  · cases hv
    have hkl : (xs.take k).length = k := by simp; omega
    refine ⟨⟨by simp [flatP_length, hkl], .inr ⟨g, cap, cur, by rw [hkl], hB, hg, by omega, hm, hs, ?_⟩⟩, fun j hj => ho j hj⟩
    rw [hkl, ← flatP_take xs k hk, List.map_take, ← ht, List.take_take, Nat.min_eq_left (by omega)]

theorem starC_pairs (p s : Nat) (h : 1 ≤ s ∧ s < p) (k : Nat) (hk : k < (starC p s).length) : ((starC p s).getD k (0, 0)).1 < ((starC p s).getD k (0, 0)).2 := (starC_order p s h k hk).2.1

set_option maxHeartbeats 400000 in
theorem sCountCrossings_yes (p s : Nat) (w : World) (h : 3 ≤ p ∧ p ≤ 60 ∧ 1 ≤ s ∧ s < p) :
    Calls Try.prog 27 #[.agg #[.int .i64 p, .int .i64 s]] w fun e w' => e = .returned (.tuple #[.int .i64 (pairsC (starC p s) : Nat), .bool true]) ∧ Below w.heap.size w w' := by
  have g : 3 ≤ (p : Int) ∧ (p : Int) ≤ 60 ∧ 1 ≤ (s : Int) ∧ (s : Int) < p := by omega
  have hl := starC_length p s
  have HO := Lib.hid (starC_pairs p s h.2.2)
  go_enter Try.func27, Try.ntmps27
  go_wp2_with (first | (go_at_call 73; (with_reducible refine (srGood_yes _ _ _ g).mono ?_); rintro e w1 ⟨rfl, hb⟩; (have c0 : w1.cell? ⟨w.heap.size, 0, none⟩ = some (.int .i64 p) := cellB hb (by first | assumption | go_simp)); (have c1 : w1.cell? ⟨w.heap.size, 1, none⟩ = some (.int .i64 s) := cellB hb (by first | assumption | go_simp)); (have hz : w.heap.size < w1.heap.size := by (have := hb.size; (try simp at this); omega)); (have hB : Below w.heap.size w w1 := by (refine Below.trans ?_ (hb.mono (by first | (simp; done) | omega | (simp; omega))); go_grown)); clear hb) | (go_at_call 74; (with_reducible refine (srChords_any p s _ h).mono ?_); rintro e w2 ⟨v2, rfl, hp2, hb2⟩; have B2 := hB.trans (hb2.mono (by omega)); have n2 := B2.size) | (go_at_call 76; (with_reducible refine (srCount_any _ _ _ _ _ hp2 HO.out (by omega)).mono ?_); rintro e w3 ⟨rfl, hb3⟩))
  go_ret2
  exact ⟨rfl, B2.trans (hb3.mono n2)⟩

set_option maxHeartbeats 400000 in
theorem sCountCrossings_no (p s : Int) (w : World) (h : ¬ (3 ≤ p ∧ p ≤ 60 ∧ 1 ≤ s ∧ s < p)) :
    Calls Try.prog 27 #[.agg #[.int .i64 p, .int .i64 s]] w fun e w' => e = .returned (.tuple #[.int .i64 0, .bool false]) ∧ Below w.heap.size w w' := by
  go_enter Try.func27, Try.ntmps27
  go_wp2_with (first | (go_at_call 73; (with_reducible refine (srGood_no _ _ _ h).mono ?_); rintro e w1 ⟨rfl, hb⟩; obtain ⟨hc, hf⟩ := bcell hb; (have hz : w.heap.size < w1.heap.size := by (have := hb.size; (try simp at this); omega)); (have hB : Below w.heap.size w w1 := by (refine Below.trans ?_ (hb.mono (by first | (simp; done) | omega | (simp; omega))); go_grown))))
  go_ret2
  exact ⟨rfl, hB⟩

set_option maxHeartbeats 400000 in
theorem iCountCrossings_no (p s : Int) (w : World) (h : ¬ (3 ≤ p ∧ p ≤ 60 ∧ 1 ≤ s ∧ s < p)) :
    Calls Try.prog 26 #[.agg #[.int .i64 p, .int .i64 s]] w fun e w' => e = .returned (.tuple #[.int .i64 0, .bool false]) ∧ Below w.heap.size w w' := by
  go_enter Try.func26, Try.ntmps26
  go_wp2_with (first | (go_at_call 24; (with_reducible refine (iChordsOf_no _ _ _ h).mono ?_); rintro e w2 ⟨v2, rfl, hp2, hb2⟩; simp only [World.size_alloc] at hb2))
  go_ret2
  exact ⟨rfl, Below.trans (by go_grown) (hb2.mono (by omega))⟩

set_option maxHeartbeats 1000000 in
theorem iCountCrossings_yes (p s : Nat) (w : World) (h : 3 ≤ p ∧ p ≤ 60 ∧ 1 ≤ s ∧ s < p) :
    Calls Try.prog 26 #[.agg #[.int .i64 p, .int .i64 s]] w fun e w' => e = .returned (.tuple #[.int .i64 (pairsC (starC p s) : Nat), .bool true]) ∧ Below w.heap.size w w' := by
  obtain ⟨xs, hxs⟩ : ∃ xs, xs = starC p s := ⟨_, rfl⟩
  have hl := starC_length p s
  have HXS := Lib.hid hxs
  rw [← hxs] at hl ⊢
  clear hxs
  go_enter Try.func26, Try.ntmps26
  go_wp2_with (first | (go_at_call 24; (with_reducible refine (iChordsOf_yes p s _ h).mono ?_); rw [← HXS.out]; rintro e w2 ⟨v2, rfl, hp2, hb2⟩; simp only [World.size_alloc] at hb2 hp2; obtain ⟨a1, c1, g1, rfl, ha1, hmm, hx1, hy1⟩ := hp2.pairs.view; obtain ⟨hcap1, hcap2⟩ := hp2.pairs.cap_le; unfold maxLen at hcap2; have B2 : Below w.heap.size w w2 := Below.trans (by go_grown) (hb2.mono (by omega)); have n2 := B2.size; have HP := Lib.hid hp2; have X := Lib.hid hx1; have Y := Lib.hid hy1; have HA := Lib.hid ha1; clear hp2 hx1 hy1 ha1 hb2))
  go_loopw [6, 18] (fun c i wr => ∃ k m : Nat, k ≤ xs.length ∧ i = .int .i64 k ∧ c = .int .i64 m ∧ m = pairsC (xs.take k) ∧ Below w.heap.size w wr ∧ Below w2.heap.size w2 wr) (fun _ i _ => xs.length - (intOf i).toNat)
  case atStart => exact ⟨0, 0, by omega, rfl, rfl, by simp [pairsC], B2, Below.refl _ _⟩
  case round =>
    obtain ⟨k, m, hk, rfl, rfl, hm, hB, hB2⟩ := hrel
    have hz := hB.size
    have hz2 := hB2.size
    by_cases hlt : k < xs.length
    · obtain rfl := HA.out (by omega)
      have hstep := pairsC_take xs k hlt
      obtain ⟨x, hx⟩ : ∃ x, x = (xs.getD k (0, 0)).1 := ⟨_, rfl⟩
      obtain ⟨y, hy⟩ : ∃ y, y = (xs.getD k (0, 0)).2 := ⟨_, rfl⟩
      have cx : wr.cell? ⟨g1, k * 2, none⟩ = _ := (hB2.cell (p := ⟨g1, k * 2, none⟩) (World.block_lt_of_cell? w2 _ (X.out k hlt))).trans (X.out k hlt)
      have cy : wr.cell? ⟨g1, k * 2 + 1, none⟩ = _ := (hB2.cell (p := ⟨g1, k * 2 + 1, none⟩) (World.block_lt_of_cell? w2 _ (Y.out k hlt))).trans (Y.out k hlt)
      rw [← hx] at cx
      rw [← hy] at cy
      rw [show xs.getD k (0, 0) = (x, y) by rw [hx, hy]] at hstep
      have h1 := cntC_le (x, y) (xs.take k)
      have h2 := pairsC_le (xs.take k)
      have hlk : (xs.take k).length = k := by rw [List.length_take]; omega
      have h3 : (xs.take k).length * (xs.take k).length ≤ 60 * 60 := Nat.mul_le_mul (by omega) (by omega)
      obtain ⟨q, hq⟩ : ∃ q, q = cntC (x, y) (xs.take k) := ⟨_, rfl⟩
      rw [← hq] at hstep h1
      rw [← hm] at hstep h2
      have HS := Lib.hid hstep
      have HQ := Lib.hid hq
      have hm2 : m ≤ 3600 := by omega
      have hq2 : q ≤ 60 := by omega
      clear hm hstep hq hx hy h1 h2 h3 hlk
      have HT := Lib.hid ((HP.out.keep (belowSame hB2 (Nat.le_refl _))).take (k := k) (by omega))
      have k1 : (0 : Int) ≤ (k : Int) := by omega
      have k2 : (k : Int) ≤ (c1 : Int) := by omega
      have k3 : k ≤ c1 := by omega
      have hw1 : IntKind.i64.wrap ((m : Int) + (q : Int)) = (m : Int) + (q : Int) := by rw [IntKind.wrap_i64]; omega
      go_wp2
      go_region_held3 (fun w' => w'.cell? ⟨wr.heap.size, 0, none⟩ = some (.int .i64 x) ∧ w'.cell? ⟨wr.heap.size, 1, none⟩ = some (.int .i64 y)) (go_keep)
        (first | (go_at_call 75; refine (countCrossing_any _ (xs.take k) x y _ _ _ (HT.out.keep (belowSame (w' := (wr.alloc (.cells #[.int .i64 x, .int .i64 y] 52)).drew) (by go_grown) hz2)) (by rw [List.length_take]; omega)).mono ?_; rw [← HQ.out]; rintro e w1 ⟨rfl, hb⟩; (have c0 : w1.cell? ⟨wr.heap.size, 0, none⟩ = some (.int .i64 x) := cellB hb (by go_simp)); (have c1' : w1.cell? ⟨wr.heap.size, 1, none⟩ = some (.int .i64 y) := cellB hb (by go_simp)); (have hB1 : Below wr.heap.size wr w1 := Below.trans (by go_grown) (hb.mono (by first | omega | (simp; done) | (simp; omega)))); clear hb))
      go_wp2
      go_roundw
      case rel => exact ⟨k + 1, m + q, by omega, by go_num, by go_num, by rw [HS.out], hB.trans (hB1.mono hz), hB2.trans (hB1.mono hz2)⟩
      case measure => simp [intOf]; omega
    · obtain rfl : k = xs.length := by omega
      rw [List.take_length] at hm
      subst hm
      go_wp2
      go_ret2
      exact ⟨rfl, hB⟩

set_option maxHeartbeats 400000 in
theorem iCrossingsOn_yes (p s : Nat) (a b : Int) (w : World) (h : 3 ≤ p ∧ p ≤ 60 ∧ 1 ≤ s ∧ s < p) (hc : 0 ≤ a ∧ a < b ∧ b < p) :
    Calls Try.prog 29 #[.agg #[.int .i64 p, .int .i64 s], .agg #[.int .i64 a, .int .i64 b]] w fun e w' => e = .returned (.tuple #[.int .i64 (cntC (a, b) (starC p s) : Nat), .bool true]) ∧ Below w.heap.size w w' := by
  have hl := starC_length p s
  go_enter Try.func29, Try.ntmps29
  go_wp2_with (first
    | (go_at_call 24; (with_reducible refine (iChordsOf_yes p s _ h).mono ?_); rintro e w2 ⟨v2, rfl, hp2, hb2⟩; (have d0 : w2.cell? ⟨w.heap.size, 0, none⟩ = some (.int .i64 p) := cellB hb2 (by go_simp)); (have d2 : w2.cell? ⟨w.heap.size + 1, 0, none⟩ = some (.int .i64 a) := cellB hb2 (by go_simp)); (have d3 : w2.cell? ⟨w.heap.size + 1, 1, none⟩ = some (.int .i64 b) := cellB hb2 (by go_simp)); simp only [World.size_alloc] at hb2 hp2; have B2 : Below w.heap.size w w2 := Below.trans (by go_grown) (hb2.mono (by omega)); have n2 := B2.size; have HP := Lib.hid hp2; clear hp2 hb2)
    | (go_at_call 77; (with_reducible refine (isChord_yes p a b _ hc).mono ?_); rintro e w3 ⟨rfl, hb3⟩; (have f2 : w3.cell? ⟨w.heap.size + 1, 0, none⟩ = some (.int .i64 a) := cellB hb3 d2); (have f3 : w3.cell? ⟨w.heap.size + 1, 1, none⟩ = some (.int .i64 b) := cellB hb3 d3); have B3 := B2.trans (hb3.mono n2); have n3 := B3.size; have HP3 := Lib.hid (HP.out.keep (belowSame hb3 (Nat.le_refl _))))
    | (go_at_call 75; (with_reducible refine (countCrossing_any _ _ a b _ _ _ HP3.out (by omega)).mono ?_); rintro e w4 ⟨rfl, hb4⟩; have B4 := B3.trans (hb4.mono n3)))
  go_ret2
  exact ⟨rfl, B4⟩

set_option maxHeartbeats 400000 in
theorem iCrossingsOn_no (p s a b : Int) (w : World) (h : ¬ ((3 ≤ p ∧ p ≤ 60 ∧ 1 ≤ s ∧ s < p) ∧ (0 ≤ a ∧ a < b ∧ b < p))) :
    Calls Try.prog 29 #[.agg #[.int .i64 p, .int .i64 s], .agg #[.int .i64 a, .int .i64 b]] w fun e w' => e = .returned (.tuple #[.int .i64 0, .bool false]) ∧ Below w.heap.size w w' := by
  by_cases g : 3 ≤ p ∧ p ≤ 60 ∧ 1 ≤ s ∧ s < p
  · have hc : ¬ (0 ≤ a ∧ a < b ∧ b < p) := fun hc => h ⟨g, hc⟩
    obtain ⟨p, rfl⟩ := Int.eq_ofNat_of_zero_le (show 0 ≤ p by omega)
    obtain ⟨s, rfl⟩ := Int.eq_ofNat_of_zero_le (show 0 ≤ s by omega)
    have h' : 3 ≤ p ∧ p ≤ 60 ∧ 1 ≤ s ∧ s < p := by omega
    clear h g
    go_enter Try.func29, Try.ntmps29
    go_wp2_with (first
      | (go_at_call 24; (with_reducible refine (iChordsOf_yes p s _ h').mono ?_); rintro e w2 ⟨v2, rfl, hp2, hb2⟩; (have d0 : w2.cell? ⟨w.heap.size, 0, none⟩ = some (.int .i64 p) := cellB hb2 (by go_simp)); (have d2 : w2.cell? ⟨w.heap.size + 1, 0, none⟩ = some (.int .i64 a) := cellB hb2 (by go_simp)); (have d3 : w2.cell? ⟨w.heap.size + 1, 1, none⟩ = some (.int .i64 b) := cellB hb2 (by go_simp)); simp only [World.size_alloc] at hb2 hp2; have B2 : Below w.heap.size w w2 := Below.trans (by go_grown) (hb2.mono (by omega)); have n2 := B2.size; clear hp2 hb2)
      | (go_at_call 77; (with_reducible refine (isChord_no _ a b _ hc).mono ?_); rintro e w3 ⟨rfl, hb3⟩; have B3 := B2.trans (hb3.mono n2)))
    go_ret2
    exact ⟨rfl, B3⟩
  · go_enter Try.func29, Try.ntmps29
    go_wp2_with (first | (go_at_call 24; (with_reducible refine (iChordsOf_no _ _ _ g).mono ?_); rintro e w2 ⟨v2, rfl, hp2, hb2⟩; simp only [World.size_alloc] at hb2; have B2 : Below w.heap.size w w2 := Below.trans (by go_grown) (hb2.mono (by omega))))
    go_ret2
    exact ⟨rfl, B2⟩

set_option maxHeartbeats 400000 in
theorem sCrossingsOn_no (p s a b : Int) (w : World) (h : ¬ ((3 ≤ p ∧ p ≤ 60 ∧ 1 ≤ s ∧ s < p) ∧ (0 ≤ a ∧ a < b ∧ b < p))) :
    Calls Try.prog 35 #[.agg #[.int .i64 p, .int .i64 s], .agg #[.int .i64 a, .int .i64 b]] w fun e w' => e = .returned (.tuple #[.int .i64 0, .bool false]) ∧ Below w.heap.size w w' := by
  by_cases g : 3 ≤ p ∧ p ≤ 60 ∧ 1 ≤ s ∧ s < p
  · have hc : ¬ (0 ≤ a ∧ a < b ∧ b < p) := fun hc => h ⟨g, hc⟩
    go_enter Try.func35, Try.ntmps35
    go_wp2_with (first | (go_at_call 73; (with_reducible refine (srGood_yes _ _ _ g).mono ?_); rintro e w1 ⟨rfl, hb⟩; (have c0 : w1.cell? ⟨w.heap.size, 0, none⟩ = some (.int .i64 p) := cellB hb (by first | assumption | go_simp)); (have c1 : w1.cell? ⟨w.heap.size, 1, none⟩ = some (.int .i64 s) := cellB hb (by first | assumption | go_simp)); (have c2 : w1.cell? ⟨w.heap.size + 1, 0, none⟩ = some (.int .i64 a) := cellB hb (by first | assumption | go_simp)); (have c3 : w1.cell? ⟨w.heap.size + 1, 1, none⟩ = some (.int .i64 b) := cellB hb (by first | assumption | go_simp)); (have hz : w.heap.size + 1 < w1.heap.size := by (have := hb.size; (try simp at this); omega)); (have hB : Below w.heap.size w w1 := by (refine Below.trans ?_ (hb.mono (by first | (simp; done) | omega | (simp; omega))); go_grown)); clear hb) | (go_at_call 84; (with_reducible refine (srIs_no _ a b _ ⟨g.1, g.2.1⟩ hc).mono ?_); rintro e w3 ⟨rfl, hb3⟩; have B3 := hB.trans (hb3.mono (by omega))))
    go_ret2
    exact ⟨rfl, B3⟩
  · go_enter Try.func35, Try.ntmps35
    go_wp2_with (first | (go_at_call 73; (with_reducible refine (srGood_no _ _ _ g).mono ?_); rintro e w1 ⟨rfl, hb⟩; (have c0 : w1.cell? ⟨w.heap.size, 0, none⟩ = some (.int .i64 p) := cellB hb (by first | assumption | go_simp)); (have c1 : w1.cell? ⟨w.heap.size, 1, none⟩ = some (.int .i64 s) := cellB hb (by first | assumption | go_simp)); (have c2 : w1.cell? ⟨w.heap.size + 1, 0, none⟩ = some (.int .i64 a) := cellB hb (by first | assumption | go_simp)); (have c3 : w1.cell? ⟨w.heap.size + 1, 1, none⟩ = some (.int .i64 b) := cellB hb (by first | assumption | go_simp)); (have hz : w.heap.size + 1 < w1.heap.size := by (have := hb.size; (try simp at this); omega)); (have hB : Below w.heap.size w w1 := by (refine Below.trans ?_ (hb.mono (by first | (simp; done) | omega | (simp; omega))); go_grown)); clear hb))
    go_ret2
    exact ⟨rfl, hB⟩

set_option maxHeartbeats 1000000 in
theorem sCrossingsOn_yes (p s : Nat) (a b : Int) (w : World) (h : 3 ≤ p ∧ p ≤ 60 ∧ 1 ≤ s ∧ s < p) (hc : 0 ≤ a ∧ a < b ∧ b < p) :
    Calls Try.prog 35 #[.agg #[.int .i64 p, .int .i64 s], .agg #[.int .i64 a, .int .i64 b]] w fun e w' => e = .returned (.tuple #[.int .i64 (cntC (a, b) (starC p s) : Nat), .bool true]) ∧ Below w.heap.size w w' := by
  have g : 3 ≤ (p : Int) ∧ (p : Int) ≤ 60 ∧ 1 ≤ (s : Int) ∧ (s : Int) < p := by omega
  obtain ⟨xs, hxs⟩ : ∃ xs, xs = starC p s := ⟨_, rfl⟩
  have hl := starC_length p s
  have HXS := Lib.hid hxs
  have HO := Lib.hid (starC_pairs p s h.2.2)
  have HAB := Lib.hid hc.2.1
  rw [← hxs] at hl HO ⊢
  clear hxs
  go_enter Try.func35, Try.ntmps35
  go_wp2_with (first
    | (go_at_call 73; (with_reducible refine (srGood_yes _ _ _ g).mono ?_); rintro e w1 ⟨rfl, hb⟩; (have c0 : w1.cell? ⟨w.heap.size, 0, none⟩ = some (.int .i64 p) := cellB hb (by first | assumption | go_simp)); (have c1 : w1.cell? ⟨w.heap.size, 1, none⟩ = some (.int .i64 s) := cellB hb (by first | assumption | go_simp)); (have c2 : w1.cell? ⟨w.heap.size + 1, 0, none⟩ = some (.int .i64 a) := cellB hb (by first | assumption | go_simp)); (have c3 : w1.cell? ⟨w.heap.size + 1, 1, none⟩ = some (.int .i64 b) := cellB hb (by first | assumption | go_simp)); (have hz : w.heap.size + 1 < w1.heap.size := by (have := hb.size; (try simp at this); omega)); (have hB : Below w.heap.size w w1 := by (refine Below.trans ?_ (hb.mono (by first | (simp; done) | omega | (simp; omega))); go_grown)); clear hb)
    | (go_at_call 84; (with_reducible refine (srIs_yes _ a b _ g.2.1 hc).mono ?_); rintro e w1 ⟨rfl, hb⟩; (have c0 : w1.cell? ⟨w.heap.size, 0, none⟩ = some (.int .i64 p) := cellB hb (by first | assumption | go_simp)); (have c1 : w1.cell? ⟨w.heap.size, 1, none⟩ = some (.int .i64 s) := cellB hb (by first | assumption | go_simp)); (have c2 : w1.cell? ⟨w.heap.size + 1, 0, none⟩ = some (.int .i64 a) := cellB hb (by first | assumption | go_simp)); (have c3 : w1.cell? ⟨w.heap.size + 1, 1, none⟩ = some (.int .i64 b) := cellB hb (by first | assumption | go_simp)); (have hz : w.heap.size + 1 < w1.heap.size := by (have := hb.size; (try simp at this); omega)); (have hB : Below w.heap.size w w1 := by (refine Below.trans ?_ (hb.mono (by first | (simp; done) | omega | (simp; omega))); go_grown)); clear hb)
    | (go_at_call 74; (with_reducible refine (srChords_any p s _ h).mono ?_); rw [← HXS.out]; rintro e w2 ⟨v2, rfl, hp2, hb2⟩; (have f2 : w2.cell? ⟨w.heap.size + 1, 0, none⟩ = some (.int .i64 a) := cellB hb2 c2); (have f3 : w2.cell? ⟨w.heap.size + 1, 1, none⟩ = some (.int .i64 b) := cellB hb2 c3); obtain ⟨a1, cp1, g1, rfl, ha1, hmm, hx1, hy1⟩ := hp2.pairs.view; have B2 := hB.trans (hb2.mono (by omega)); have n2 := B2.size; (have hz2 : w.heap.size + 1 < w2.heap.size := by have := hb2.size; omega); have X := Lib.hid hx1; have Y := Lib.hid hy1; have HA := Lib.hid ha1; clear hp2 hx1 hy1 ha1 hb2))
  go_loopw [6, 22] (fun c i wr => ∃ k m : Nat, k ≤ xs.length ∧ i = .int .i64 k ∧ c = .int .i64 m ∧ m = cntC (a, b) (xs.take k) ∧ Below w.heap.size w wr ∧ Below w2.heap.size w2 wr ∧ wr.cell? ⟨w.heap.size + 1, 0, none⟩ = some (.int .i64 a) ∧ wr.cell? ⟨w.heap.size + 1, 1, none⟩ = some (.int .i64 b)) (fun _ i _ => xs.length - (intOf i).toNat)
  case atStart => exact ⟨0, 0, by omega, rfl, rfl, by simp [cntC], B2, Below.refl _ _, f2, f3⟩
  case round =>
    obtain ⟨k, m, hk, rfl, rfl, hm, hBk, hB2k, p2, p3⟩ := hrel
    have hzk := hBk.size
    have hz2k := hB2k.size
    have hzz : w.heap.size + 1 < wr.heap.size := by omega
    clear c0 c1 c2 c3 f2 f3
    by_cases hlt : k < xs.length
    · obtain rfl := HA.out (by omega)
      have hxy := HO.out k hlt
      have hle := cntC_le (a, b) (xs.take k)
      rw [List.length_take] at hle
      have hm60 : m ≤ 60 := by omega
      have HM := Lib.hid hm
      obtain ⟨x, hx⟩ : ∃ x, x = (xs.getD k (0, 0)).1 := ⟨_, rfl⟩
      obtain ⟨y, hy⟩ : ∃ y, y = (xs.getD k (0, 0)).2 := ⟨_, rfl⟩
      have cx : wr.cell? ⟨g1, k * 2, none⟩ = _ := (hB2k.cell (p := ⟨g1, k * 2, none⟩) (World.block_lt_of_cell? w2 _ (X.out k hlt))).trans (X.out k hlt)
      have cy : wr.cell? ⟨g1, k * 2 + 1, none⟩ = _ := (hB2k.cell (p := ⟨g1, k * 2 + 1, none⟩) (World.block_lt_of_cell? w2 _ (Y.out k hlt))).trans (Y.out k hlt)
      rw [← hx] at cx hxy
      rw [← hy] at cy hxy
      have hcp : crossP (a, b) (xs.getD k (0, 0)) = crossB a b x y := by unfold crossP; rw [hx, hy]
      have hstep := cntC_take (a, b) xs k hlt
      have HXY := Lib.hid hxy
      clear hx hy hxy hm hle
      cases hcr : crossB a b x y with
      | true =>
        have HS2 := Lib.hid (show cntC (a, b) (xs.take (k + 1)) = cntC (a, b) (xs.take k) + 1 by rw [hstep, hcp, hcr]; rfl)
        have HCR := Lib.hid hcr
        clear hstep hcp hcr
        go_wp2_with (first | (go_at_call 85; (with_reducible refine (srCross_any a b x y _ HAB.out HXY.out).mono ?_); rintro e w3 ⟨rfl, hb⟩; rw [HCR.out]; (have d0 : w3.cell? ⟨w.heap.size + 1, 0, none⟩ = some (.int .i64 a) := cellB hb (by first | assumption | go_simp)); (have d1 : w3.cell? ⟨w.heap.size + 1, 1, none⟩ = some (.int .i64 b) := cellB hb (by first | assumption | go_simp)); (have hb' : Below wr.heap.size wr w3 := by (refine Below.trans ?_ (hb.mono (by first | omega | (simp; done) | (simp; omega))); go_grown)); clear hb))
        go_roundw
        case rel => exact ⟨k + 1, m + 1, by omega, by go_num, by go_num, by rw [HS2.out]; have := HM.out; omega, hBk.trans (hb'.mono hzk), hB2k.trans (hb'.mono hz2k), d0, d1⟩
        case measure => simp [intOf]; omega
      | false =>
        have HS2 := Lib.hid (show cntC (a, b) (xs.take (k + 1)) = cntC (a, b) (xs.take k) + 0 by rw [hstep, hcp, hcr]; rfl)
        have HCR := Lib.hid hcr
        clear hstep hcp hcr
        go_wp2_with (first | (go_at_call 85; (with_reducible refine (srCross_any a b x y _ HAB.out HXY.out).mono ?_); rintro e w3 ⟨rfl, hb⟩; rw [HCR.out]; (have d0 : w3.cell? ⟨w.heap.size + 1, 0, none⟩ = some (.int .i64 a) := cellB hb (by first | assumption | go_simp)); (have d1 : w3.cell? ⟨w.heap.size + 1, 1, none⟩ = some (.int .i64 b) := cellB hb (by first | assumption | go_simp)); (have hb' : Below wr.heap.size wr w3 := by (refine Below.trans ?_ (hb.mono (by first | omega | (simp; done) | (simp; omega))); go_grown)); clear hb))
        go_roundw
        case rel => exact ⟨k + 1, m + 0, by omega, by go_num, by go_num, by rw [HS2.out]; have := HM.out; omega, hBk.trans (hb'.mono hzk), hB2k.trans (hb'.mono hz2k), d0, d1⟩
        case measure => simp [intOf]; omega
    · obtain rfl : k = xs.length := by omega
      rw [List.take_length] at hm
      subst hm
      go_wp2
      go_ret2
      exact ⟨rfl, hBk⟩

end Go.Proofs.Ytnldnjgnpdicnaa
