/- Neighbours among the regions: both lists are one (pure); rows sorted, none of them too. -/
import Derived.Test.YtpliaenpencocabRT
namespace Go.Proofs.Ytpliaenpencocab
open Go.RowKit
set_option linter.unusedVariables false

/-- The regions beside a chord, for each chord. -/
def nextC (L : List (List Int)) (c : Int × Int) : List Int := selT (fun k => bothR c (L.getD k [])) L.length
def nextsC (L : List (List Int)) (xs : List (Int × Int)) : List (List Int) := xs.map (nextC L)

theorem sel_two {f : Nat → Bool} {n i j : Nat} (h : (List.range n).filter f = [i, j]) : selT f n = [(i : Int), (j : Int)] := by
  unfold selT
  rw [h]
  rfl

theorem less_two (a b c d : Int) : lessL [a, b] [c, d] = true ↔ a < c ∨ (a = c ∧ b < d) := by
  unfold lessL
  rw [decide_eq_true_eq]
  simp only [cmpL]
  repeat' split
  all_goals omega

def StrictL (L : List (List Int)) : Prop := L.Pairwise fun a b => lessL a b = true

theorem StrictL.sorted {L : List (List Int)} (h : StrictL L) : SortedL L := by
  unfold StrictL at h
  unfold SortedL
  refine h.imp fun {a b} hl => ?_
  rw [lessL_no]
  unfold lessL at hl
  rw [decide_eq_true_eq] at hl
  omega

theorem StrictL.nodup {L : List (List Int)} (h : StrictL L) : L.Nodup := by
  unfold StrictL at h
  rw [List.nodup_iff_pairwise_ne]
  refine h.imp fun {a b} hl e => ?_
  subst e
  rw [lessL_irrefl] at hl
  simp at hl

theorem allN_strict (L : List (List Int)) (k : Nat) : StrictL (allN L k) := by
  unfold StrictL allN
  rw [List.pairwise_flatMap]
  refine ⟨fun i hi => ?_, ?_⟩
  · unfold rowN
    rw [List.pairwise_map]
    refine (List.pairwise_lt_range.sublist List.filter_sublist).imp fun {a b} hlt => ?_
    rw [less_two]
    omega
  · refine List.pairwise_lt_range.imp fun {a b} hlt x hx y hy => ?_
    obtain ⟨j, _, rfl⟩ := List.mem_map.1 hx
    obtain ⟨l, _, rfl⟩ := List.mem_map.1 hy
    rw [less_two]
    omega

theorem mem_allN {L : List (List Int)} {x : List Int} : x ∈ allN L L.length ↔ ∃ i j : Nat, i < j ∧ j < L.length ∧ comN (L.getD i []) (L.getD j []) = 2 ∧ x = [(i : Int), (j : Int)] := by
  unfold allN rowN isN
  constructor
  · intro h
    obtain ⟨i, hi, h⟩ := List.mem_flatMap.1 h
    obtain ⟨j, hj, rfl⟩ := List.mem_map.1 h
    obtain ⟨h1, h2⟩ := List.mem_filter.1 hj
    rw [Bool.and_eq_true, decide_eq_true_eq, beq_iff_eq] at h2
    exact ⟨i, j, h2.1, by simpa using h1, h2.2, rfl⟩
  · rintro ⟨i, j, hij, hj, h2, rfl⟩
    refine List.mem_flatMap.2 ⟨i, by simp; omega, List.mem_map.2 ⟨j, List.mem_filter.2 ⟨by simpa using hj, ?_⟩, rfl⟩⟩
    rw [Bool.and_eq_true, decide_eq_true_eq, beq_iff_eq]
    exact ⟨hij, h2⟩

theorem good_ord3 {p : Int} {xs : List (Int × Int)} (hg : goodC p xs) (i j : Nat) (hij : i < j) (hj : j < xs.length) : lessC (xs.getD i (0, 0)) (xs.getD j (0, 0)) = true := by
  induction j with
  | zero => omega
  | succ j ih =>
    have h1 := (hg.2.2 (j + 1) hj).2 (by omega)
    rw [show j + 1 - 1 = j by omega] at h1
    by_cases e : i = j
    · rw [e]; exact h1
    · exact lessC_trans (ih (by omega) (by omega)) h1

theorem good_sorted3 {p : Int} {xs : List (Int × Int)} (hg : goodC p xs) : SortedC xs := by
  unfold SortedC
  rw [List.pairwise_iff_getElem]
  intro i j hi hj hij
  have := good_ord3 hg i j hij hj
  rw [List.getD_eq_getElem?_getD, List.getD_eq_getElem?_getD, List.getElem?_eq_getElem hi, List.getElem?_eq_getElem hj] at this
  exact this

theorem good_nodup {n : Int} {xs : List (Int × Int)} (hg : goodC n xs) : xs.Nodup := by
  have h := good_sorted3 hg
  unfold SortedC at h
  rw [List.nodup_iff_pairwise_ne]
  refine h.imp fun {a b} hl e => ?_
  subst e
  exact lessC_irrefl _ hl

/-- The program's pairs are the model's. -/
theorem pairs_perm {n : Nat} {xs : List (Int × Int)} (hg : goodC n xs) (hpl : allP xs xs.length = []) : (nextsC (regL n xs) xs).Perm (allN (regL n xs) (regL n xs).length) := by
  have hnd : (nextsC (regL n xs) xs).Nodup := by
    unfold nextsC
    rw [List.nodup_iff_pairwise_ne, List.pairwise_map]
    refine (List.nodup_iff_pairwise_ne.1 (good_nodup hg)).imp_of_mem fun {c d} hc hd hne e => hne (next_one hg hpl hc hd ?_)
    obtain ⟨i, j, _, _, h1⟩ := sel_pair hg hpl hc
    obtain ⟨k, l, _, _, h2⟩ := sel_pair hg hpl hd
    unfold nextC at e
    rw [sel_two h1, sel_two h2] at e
    simp at e
    rw [h1, h2, show i = k by omega, show j = l by omega]
  rw [List.perm_ext_iff_of_nodup hnd (allN_strict _ _).nodup]
  intro x
  rw [mem_allN]
  constructor
  · intro h
    obtain ⟨c, hc, rfl⟩ := List.mem_map.1 h
    obtain ⟨i, j, hij, hj, hS⟩ := sel_pair hg hpl hc
    exact ⟨i, j, hij, hj, (next_iff hg hpl hij hj).2 ⟨c, hc, hS⟩, sel_two hS⟩
  · rintro ⟨i, j, hij, hj, h2, rfl⟩
    obtain ⟨c, hc, hS⟩ := (next_iff hg hpl hij hj).1 h2
    exact List.mem_map.2 ⟨c, hc, sel_two hS⟩

theorem nextL_is {n : Nat} {xs : List (Int × Int)} (hg : goodC n xs) (hpl : allP xs xs.length = []) {yss : List (List Int)} (hp : yss.Perm (nextsC (regL n xs) xs)) (hs : SortedL yss) : yss = allN (regL n xs) (regL n xs).length :=
  SortedL.unique (hp.trans (pairs_perm hg hpl)) hs (allN_strict _ _).sorted

theorem nextL_length {n : Nat} {xs : List (Int × Int)} (hg : goodC n xs) (hpl : allP xs xs.length = []) : (allN (regL n xs) (regL n xs).length).length = xs.length := by
  rw [← (pairs_perm hg hpl).length_eq]
  simp [nextsC]

theorem nextL_two {n : Nat} {xs : List (Int × Int)} {x : List Int} (h : x ∈ allN (regL n xs) (regL n xs).length) : x.length = 2 := by
  obtain ⟨i, j, _, _, _, rfl⟩ := mem_allN.1 h
  rfl

set_option maxHeartbeats 1000000 in
/-- No rows, sorted. -/
theorem sortNone (g cap : Nat) (B T : Nat) (w : World) (hR : RowsAt 46 3 w B T (.slice (some ⟨g, 0, none⟩) 0 cap) [] []) (hT : T ≤ w.heap.size) :
    Calls Try.prog 71 #[.slice (some ⟨g, 0, none⟩) 0 cap, .func (.func 72) #[] #[]] w fun e w' => e = .returned (.tuple #[]) ∧ RowsAt 46 3 w' B w'.heap.size (.slice (some ⟨g, 0, none⟩) 0 cap) [] [] ∧ w.grownBy w' (some g) := by
  rcases hR.outer.2 with ⟨h0, _⟩ | ⟨g', cap', cur, hv, hB, hg, hc1, hc2, hc3, htk⟩
  · cases h0
  · obtain ⟨rfl, rfl⟩ : g = g' ∧ cap = cap' := by simpa using hv
    let enc : Fin 1 → Value := fun _ => .slice none 0 0
    let cf : Fin 1 → Fin 1 → Int := fun _ _ => 0
    have hone : OneCell enc := fun i => rfl
    have hH : Sort.Holds enc w g 0 #[] := fun j hj => absurd hj (by simp)
    have eg : ∀ args w, (callFunc 72 args).run Try.prog w = .ok (.enter 72 args) w := enters_of Try.func72 (by kernel_rfl) rfl
    have hcmp : CmpLays1 Try.prog 72 #[] enc cf g 0 (#[] : Array (Fin 1)).size w := fun n os dk _ x y => by
      refine (compare_any (.slice none 0 0) (.slice none 0 0) [] [] B T B T 3 _ (IntsIn.nil _ _ _ _) (IntsIn.nil _ _ _ _)).mono ?_
      rintro e w' ⟨rfl, rfl⟩
      exact ⟨rfl, 0, #[], by simp [World.drewN_zero, Sort.grow_empty]⟩
    have hswo : Sort.SWO (ltOf cf) := ⟨fun x => by simp [ltOf, cf], fun x y z h1 _ => by simp [ltOf, cf] at h1, fun x y z _ _ => by simp [ltOf, cf]⟩
    have hcon := Any.slices_SortFunc Try.sortR enc hone cf hswo 72 #[] g 0 cap #[] w eg hcmp hH (Array.getElem?_eq_some_iff.1 hg).1 (by simp)
    change Calls Try.prog 71 _ _ _ at hcon
    refine hcon.mono ?_
    rintro e w' ⟨rfl, d', n, os, hp, hs, rfl⟩
    have hgr : w.grownBy (sortWorld enc w g 0 n d' os) (some g) := grownR enc d'
    have hgz := hgr.size
    refine ⟨rfl, ⟨rfl, ⟨rfl, .inr ⟨g, cap, _, rfl, hB, heapR enc d' hg, by omega, hc2, by simp [Sort.putCells, hc3], by simp⟩⟩, fun k hk => ?_, fun i hi => absurd hi (by simp), fun i j hi => absurd hi (by simp)⟩, hgr⟩
    have := hR.top k hk
    omega
end Go.Proofs.Ytpliaenpencocab
