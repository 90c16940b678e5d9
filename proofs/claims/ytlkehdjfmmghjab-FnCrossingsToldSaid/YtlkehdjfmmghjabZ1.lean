/- Chords sorted by slices.SortFunc. -/
import Derived.Test.YtlkehdjfmmghjabSh
import Derived.Test.YtlkehdjfmmghjabC1
import Derived.Test.YtlkehdjfmmghjabP3
import Derived.Test.YtlkehdjfmmghjabP6
import Derived.Sort.OwnSortedInts
namespace Go.Proofs.Ytlkehdjfmmghjab
open Go.RowKit Go.Sort Go.Shelf
set_option linter.unusedVariables false

/-- The chords sorted. -/
def sortL (xs : List (Int × Int)) : List (Int × Int) := xs.mergeSort fun x y => !lessC y x

theorem mem_sortL (xs : List (Int × Int)) (x : Int × Int) : x ∈ sortL xs ↔ x ∈ xs := (List.mergeSort_perm xs _).mem_iff

theorem sortL_length (xs : List (Int × Int)) : (sortL xs).length = xs.length := (List.mergeSort_perm xs _).length_eq

theorem sortL_sorted (xs : List (Int × Int)) (h : xs.Nodup) : SortedC (sortL xs) := by
  have h1 : (sortL xs).Pairwise fun x y => (!lessC y x) = true := by
    refine List.pairwise_mergeSort ?_ ?_ xs
    · intro a b c hab hbc
      simp only [Bool.not_eq_true'] at *
      cases e : lessC c a with
      | false => rfl
      | true =>
        rcases lessC_total b a with h | h | h
        · rw [h] at hab; cases hab
        · rw [h, e] at hbc; cases hbc
        · rw [lessC_trans e h] at hbc; cases hbc
    · intro a b
      cases e : lessC b a with
      | false => rfl
      | true =>
        cases f : lessC a b with
        | false => rfl
        | true => exact absurd (lessC_trans e f) (lessC_irrefl _)
  have h2 : (sortL xs).Nodup := (List.mergeSort_perm xs _).nodup_iff.2 h
  unfold SortedC
  refine (List.Pairwise.and h1 h2).imp fun {x y} hxy => ?_
  rcases lessC_total x y with h | h | h
  · exact h
  · exact absurd h hxy.2
  · have := hxy.1
    rw [h] at this
    cases this

def encC (x : Int × Int) : List Value := [.int .i64 x.1, .int .i64 x.2]

theorem flatK_pairs (xs : List (Int × Int)) : flatK encC 2 xs.toArray = ((flatP xs).map (Value.int .i64)).toArray := by
  apply Array.ext
  · simp [flatP_length]
  · intro t h1 h2
    have ht : t < xs.length * 2 := by simpa using h1
    rw [← getElem!_pos (flatK encC 2 xs.toArray) t h1, get_flatK _ _ _ _ (by simpa using ht)]
    have hd : t / 2 < xs.length := by omega
    have hg : xs.toArray[t / 2]! = xs.getD (t / 2) (0, 0) := by simp [hd, List.getD]
    rw [hg]
    simp only [List.getElem_toArray, List.getElem_map]
    rcases Nat.mod_two_eq_zero_or_one t with e | e
    · have h0 := flatP_get0 xs (t / 2)
      rw [show t / 2 * 2 = t by omega, List.getD_eq_getElem?_getD, List.getElem?_eq_getElem (by rw [flatP_length]; omega)] at h0
      simp only [Option.getD_some] at h0
      rw [e, h0]
      rfl
    · have h0 := flatP_get1 xs (t / 2)
      rw [show t / 2 * 2 + 1 = t by omega, List.getD_eq_getElem?_getD, List.getElem?_eq_getElem (by rw [flatP_length]; omega)] at h0
      simp only [Option.getD_some] at h0
      rw [e, h0]
      rfl

theorem holds_vals {w : World} {g : Nat} {cur : Array Value} {e : TypeId} {vs : List Value} (hb : w.heap[g]? = some (.cells cur e (0, 0))) (ht : cur.toList.take vs.length = vs) : Holds id w g 0 vs.toArray := by
  intro j hj
  have hj' : j < vs.length := by simpa using hj
  refine ⟨?_, by simp [World.frozen?, hb]⟩
  have h1 : (cur.toList.take vs.length)[j]? = vs[j]? := by rw [ht]
  rw [List.getElem?_take_of_lt hj'] at h1
  simp only [World.cell?, hb, Nat.zero_add]
  simp only [Option.isSome_none, Bool.false_eq_true, if_false]
  rw [← Array.getElem?_toList, h1]
  simp [hj']

theorem heap_vals {w : World} {g n : Nat} {os : Array Obj} {cur : Array Value} {e : TypeId} {fr : Nat × Nat} (d : Array Value) (hb : w.heap[g]? = some (.cells cur e fr)) :
    (grow (putRow id (Sort.ahead w n) g 0 d) os).heap[g]? = some (.cells (putCells id 0 d cur) e fr) := by
  have hg : g < w.heap.size := (Array.getElem?_eq_some_iff.1 hb).1
  rw [heap_grow_old _ _ (by simpa using hg)]
  simp [putRow, mapBlock, Sort.ahead, Array.getElem?_modify, hb, onCells]

theorem grownBy_vals {w : World} {g n : Nat} {os : Array Obj} (d : Array Value) : w.grownBy (grow (putRow id (Sort.ahead w n) g 0 d) os) (some g) := by
  refine ⟨rfl, rfl, rfl, by simp, fun k hk hne => ?_⟩
  rw [heap_grow_old _ _ (by simpa using hk)]
  have : g ≠ k := fun e => hne (by rw [e])
  simp [putRow, mapBlock, Sort.ahead, Array.getElem?_modify, this]

theorem take_vals (cur : Array Value) (ts : List Value) (h : ts.length ≤ cur.size) : (putCells id 0 ts.toArray cur).toList.take ts.length = ts := by
  apply List.ext_getElem?
  intro j
  by_cases hj : j < ts.length
  · rw [List.getElem?_take_of_lt hj, Array.getElem?_toList]
    simp [putCells, hj, show j < cur.size by omega]
  · rw [List.getElem?_take_eq_none (by omega), List.getElem?_eq_none (by omega)]

def cfC (x y : Int × Int) : Int := cmpC x.1 x.2 y.1 y.2

theorem lt_cfC : ltOf cfC = lessC := by
  funext x y
  obtain ⟨a, b⟩ := x
  obtain ⟨c, d⟩ := y
  unfold ltOf cfC lessC cmpC cmpI
  rw [decide_eq_decide]
  show (if (if a < c then (-1 : Int) else if c < a then 1 else 0) ≠ 0 then (if a < c then (-1 : Int) else if c < a then 1 else 0) else (if b < d then (-1 : Int) else if d < b then 1 else 0)) < 0 ↔ (a < c ∨ (a = c ∧ b < d))
  split <;> split <;> (try split) <;> (try split) <;> omega

theorem swoC : SWO lessC where
  irrefl x := by cases e : lessC x x with | false => rfl | true => exact absurd e (lessC_irrefl x)
  trans x y z h1 h2 := lessC_trans h1 h2
  ntrans x y z h1 h2 := by
    cases e : lessC x z with
    | false => rfl
    | true =>
      rcases lessC_total x y with h | h | h
      · rw [h] at h1; cases h1
      · rw [← h, e] at h2; cases h2
      · rw [lessC_trans h e] at h2; cases h2

theorem totC : ∀ x y, lessC x y = false → lessC y x = false → x = y := by
  intro x y h1 h2
  rcases lessC_total x y with h | h | h
  · rw [h] at h1; cases h1
  · exact h
  · rw [h] at h2; cases h2

set_option maxHeartbeats 1000000 in
theorem sortC_any (v : Value) (xs : List (Int × Int)) (B : Nat) (w : World) (h : Pairs w B 61 v xs) (hn : xs.length ≤ 1000000) :
    Calls Try.prog 123 #[v, .func (.func 124) #[] #[]] w fun e w' => e = .returned (.tuple #[]) ∧ Pairs w' B 61 v (sortL xs) ∧ w.grownBy w' v.ownBlock := by
  obtain ⟨hlen, ⟨rfl, hn0⟩ | ⟨g, cap, cur, rfl, hB, hg, hnc, hcm, hs, ht⟩⟩ := h
  · have hx : xs = [] := List.eq_nil_of_length_eq_zero hn0
    subst hx
    refine (show Calls Try.prog 123 _ w _ from AnyF.slices_SortFunc_none Try.sortC none 0 (.func (.func 124) #[] #[]) w).mono fun e w' ⟨he, hw⟩ => ?_
    subst hw
    exact ⟨he, by simp [sortL]; exact World.ownsRow_nil _ _ _ _, grownBy_refl _ _⟩
  · have hF := flatK_pairs xs
    have hvl : ((flatP xs).map (Value.int .i64)).length = xs.length * 2 := by simp [flatP_length]
    have hH : HoldsK encC 2 w g 0 xs.toArray := by
      unfold HoldsK
      rw [hF]
      exact holds_vals hg (by rw [hvl]; exact ht)
    have eg : ∀ args w, (callFunc 124 args).run Try.prog w = .ok (.enter 124 args) w := enters_of Try.func124 (by kernel_rfl) rfl
    have hcon := AnyQ.slices_SortFunc_total Try.sortC 2 Try.isAgg61 Try.sizeOf61 encC (fun _ => rfl) (fun x v hv => by simp [encC] at hv; rcases hv with rfl | rfl <;> rfl) cfC (by rw [lt_cfC]; exact swoC) 124 #[] g 0 cap xs.toArray w eg
      (fun m os dk _ x y => compareChords_any x.1 x.2 y.1 y.2 _) hH (Array.getElem?_eq_some_iff.1 hg).1 (by simp; omega) (by rw [lt_cfC]; exact totC)
    change Calls Try.prog 123 _ _ _ at hcon
    simp only [List.size_toArray] at hcon
    refine hcon.mono fun e w' ⟨he, n, os, hw⟩ => ?_
    rw [lt_cfC] at hw
    have hsl : (xs.toArray.toList.mergeSort fun x y => !lessC y x) = sortL xs := rfl
    rw [hsl] at hw
    unfold sortWorldK putRowK at hw
    rw [flatK_pairs] at hw
    subst hw
    have hl2 : ((flatP (sortL xs)).map (Value.int .i64)).length = xs.length * 2 := by simp [flatP_length, sortL_length]
    refine ⟨he, ⟨by rw [hl2, sortL_length], .inr ⟨g, cap, _, by rw [sortL_length], hB, heap_vals _ hg, by rw [sortL_length]; exact hnc, hcm, by simp [putCells, hs], ?_⟩⟩, grownBy_vals _⟩
    have := take_vals cur ((flatP (sortL xs)).map (Value.int .i64)) (by rw [hl2, hs]; omega)
    rw [hl2] at this
    rw [sortL_length]
    exact this

end Go.Proofs.Ytlkehdjfmmghjab
