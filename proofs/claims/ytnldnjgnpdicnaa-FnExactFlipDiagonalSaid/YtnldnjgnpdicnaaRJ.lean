/- PlaneRegions, RegionSizes: both sides, the laws. -/
import Derived.Test.YtnldnjgnpdicnaaRD
import Derived.Test.YtnldnjgnpdicnaaRI
import Derived.Test.YtnldnjgnpdicnaaET
import Derived.Test.YtnldnjgnpdicnaaV1
import Derived.Test.YtnldnjgnpdicnaaK7
namespace Go.Proofs.Ytnldnjgnpdicnaa
open Go.RowKit
set_option linter.unusedVariables false

/-- A list's place in order. -/
def insL (r : List Int) : List (List Int) → List (List Int)
  | [] => [r]
  | a :: t => if lessL r a then r :: a :: t else a :: insL r t

theorem insL_perm (r : List Int) (L : List (List Int)) : (insL r L).Perm (r :: L) := by
  induction L with
  | nil => exact List.Perm.refl _
  | cons a t ih =>
    rw [insL]
    split
    · exact List.Perm.refl _
    · exact (ih.cons a).trans (List.Perm.swap r a t)

theorem insL_sorted (r : List Int) (L : List (List Int)) (h : SortedL L) : SortedL (insL r L) := by
  induction L with
  | nil => simp [insL, SortedL]
  | cons a t ih =>
    unfold SortedL at h ih ⊢
    rw [List.pairwise_cons] at h
    rw [insL]
    split
    · rename_i hl
      have har : lessL a r = false := by
        rw [lessL_no]
        unfold lessL at hl
        rw [decide_eq_true_eq] at hl
        omega
      rw [List.pairwise_cons]
      refine ⟨fun b hb => ?_, List.pairwise_cons.2 h⟩
      rcases List.mem_cons.1 hb with rfl | hb
      · exact har
      · have h2 := h.1 b hb
        rw [lessL_no] at h2 har ⊢
        exact (cmpL_trans har h2).1
    · rename_i hl
      rw [List.pairwise_cons]
      refine ⟨fun b hb => ?_, ih h.2⟩
      rcases List.mem_cons.1 ((insL_perm r t).mem_iff.1 hb) with rfl | hb
      · simpa using hl
      · exact h.1 b hb

/-- The regions, in order. -/
def regL (n : Nat) (xs : List (Int × Int)) : List (List Int) := (regsF [selT (fun _ => true) n] xs).foldr insL []

theorem regL_perm (n : Nat) (xs : List (Int × Int)) : (regL n xs).Perm (regsF [selT (fun _ => true) n] xs) := by
  unfold regL
  generalize regsF [selT (fun _ => true) n] xs = L
  induction L with
  | nil => exact List.Perm.refl _
  | cons a t ih => exact (insL_perm a _).trans (ih.cons a)

theorem regL_sorted (n : Nat) (xs : List (Int × Int)) : SortedL (regL n xs) := by
  unfold regL
  generalize regsF [selT (fun _ => true) n] xs = L
  induction L with
  | nil => exact List.Pairwise.nil
  | cons a t ih => exact insL_sorted a _ ih

theorem regL_is {n : Nat} {xs : List (Int × Int)} {yss : List (List Int)} (hp : yss.Perm (regsF [selT (fun _ => true) n] xs)) (hs : SortedL yss) : yss = regL n xs :=
  SortedL.unique (hp.trans (regL_perm n xs).symm) hs (regL_sorted n xs)

theorem plane_yes {p : Int} {xs : List (Int × Int)} (h : allP xs xs.length = []) : (((allP xs xs.length).length : Int) == 0) = true := by rw [h]; rfl
theorem plane_no {p : Int} {xs : List (Int × Int)} (h : ¬ allP xs xs.length = []) : (((allP xs xs.length).length : Int) == 0) = false := by
  rw [beq_eq_false_iff_ne]
  intro e
  exact h (List.eq_nil_of_length_eq_zero (by omega))

theorem rowsIn_low {eo ei : TypeId} {w : World} {B B' T : Nat} {v : Value} {xss : List (List Int)} (h : RowsIn eo ei w B T v xss) (hB : B' ≤ B) : RowsIn eo ei w B' T v xss := by
  obtain ⟨vs, h⟩ := h
  exact ⟨vs, h.lower hB⟩

/-- The program's regions. -/
theorem regions_gives (n : Nat) (a0 : Option Addr) (cap : Nat) (xs : List (Int × Int)) (B T : Nat) (w : World) (h : PairsIn 52 w B T (.slice a0 xs.length cap) xs) (hT : T ≤ w.heap.size) (hg : goodC n xs) (hpl : allP xs xs.length = []) :
    Calls Try.prog 105 #[.agg #[.int .i64 n, .slice a0 xs.length cap]] w fun e w' => ∃ v, e = .returned v ∧ RowsIn 33 3 w' w.heap.size w'.heap.size v (regL n xs) ∧ Below w.heap.size w w' := by
  refine (regions_any n a0 cap xs B T w h hT hg hpl).mono ?_
  rintro e w' ⟨v, yss, rfl, hR, hp, hs, hb⟩
  rw [regL_is hp hs] at hR
  exact ⟨v, rfl, hR, hb⟩

/-- The model's. -/
theorem reList_gives (n : Nat) (u : Value) (xs : List (Int × Int)) (B T : Nat) (w : World) (h : PairsIn 52 w B T u xs) (hT : T ≤ w.heap.size) (hg : goodC n xs) (hpl : allP xs xs.length = []) :
    Calls Try.prog 51 #[.int .i64 n, u] w fun e w' => ∃ v, e = .returned v ∧ RowsIn 33 3 w' w.heap.size w'.heap.size v (regL n xs) ∧ Below w.heap.size w w' := by
  refine (reList_any n u xs B T w h hT hg hpl).mono ?_
  rintro e w' ⟨v, rs, rfl, hO, hp, hs, hb⟩
  have hR := hO.rowsIn
  rw [regL_is hp hs] at hR
  exact ⟨v, rfl, hR, hb⟩

set_option maxHeartbeats 400000 in
theorem planeM_yes (p : Int) (a0 : Option Addr) (cap : Nat) (xs : List (Int × Int)) (B T : Nat) (w : World) (h : PairsIn 52 w B T (.slice a0 xs.length cap) xs) (hT : T ≤ w.heap.size) (hg : goodC p xs) : Calls Try.prog 99 #[.int .i64 p, .slice a0 xs.length cap] w fun e w' => e = .returned (.bool (((allP xs xs.length).length : Int) == 0)) ∧ Below w.heap.size w w' := by
  have hl := hg.2.1
  have ho := chord_order hg
  obtain ⟨ps, hps⟩ : ∃ ps, allP xs xs.length = ps := ⟨_, rfl⟩
  rw [hps]
  have HPS := Lib.hid hps
  clear hps
  go_enter Try.func99, Try.ntmps99
  go_wp2_with (first | (go_at_call 48; (with_reducible refine (cdGood_yes p _ xs B T _ h hg).mono ?_); rintro e w1 ⟨rfl, hb1⟩; have h1 := h.keep (belowSame hb1 hT); have hz1 := hb1.size) | (go_at_call 129; (with_reducible refine (cdPairs_any _ xs B T _ h1 ho (Nat.le_trans hl (by omega))).mono ?_); rw [HPS.out]; rintro e w2 ⟨v, rfl, hr, hb2⟩; (obtain ⟨vs, hv⟩ := hr); (obtain ⟨a2, c2, g2, rfl, _, hm2, _⟩ := hv.view); clear hv))
  go_ret
  exact ⟨rfl, hb1.trans (hb2.mono hz1)⟩

set_option maxHeartbeats 400000 in
theorem planeM_no (p : Int) (a0 : Option Addr) (cap : Nat) (xs : List (Int × Int)) (B T : Nat) (w : World) (h : PairsIn 52 w B T (.slice a0 xs.length cap) xs) (hT : T ≤ w.heap.size) (hg : ¬ goodC p xs) : Calls Try.prog 99 #[.int .i64 p, .slice a0 xs.length cap] w fun e w' => e = .returned (.bool false) ∧ Below w.heap.size w w' := by
  go_enter Try.func99, Try.ntmps99
  go_wp2_with (first | (go_at_call 48; (with_reducible refine (cdGood_no p _ xs B T _ h hg).mono ?_); rintro e w1 ⟨rfl, hb1⟩))
  go_ret
  exact ⟨rfl, hb1⟩

theorem regs_lens {n : Nat} {xs : List (Int × Int)} (cs : List (Int × Int)) : ∀ L : List (List Int), (∀ R ∈ L, R.length ≤ 60) → ∀ R ∈ regsF L cs, R.length ≤ 60 := by
  induction cs with
  | nil => intro L h; exact h
  | cons c cs ih =>
    intro L h
    rw [regsF_cons]
    refine ih _ fun R hR => ?_
    obtain ⟨S, hS, hRS⟩ := List.mem_flatMap.1 hR
    unfold splitR at hRS
    split at hRS
    · simp at hRS
      rcases hRS with rfl | rfl <;> exact Nat.le_trans (List.length_filter_le _ _) (h S hS)
    · simp at hRS
      subst hRS
      exact h _ hS

theorem splitF_length {c : Int × Int} {L : List (List Int)} (h : numR c L = 1) : (splitF L c).length = L.length + 1 := by
  obtain ⟨h1, h2⟩ := splitF_first h
  rw [h2]
  simp
  omega

theorem regL_length {n : Nat} {xs : List (Int × Int)} (hg : goodC n xs) (hpl : allP xs xs.length = []) : (regL n xs).length = xs.length + 1 := by
  rw [(regL_perm n xs).length_eq]
  have key : ∀ k, k ≤ xs.length → (regsF [selT (fun _ => true) n] (xs.take k)).length = k + 1 := by
    intro k
    induction k with
    | zero => intro _; simp [regsF]
    | succ k ih =>
      intro hk
      obtain ⟨x, y, hxy⟩ : ∃ x y, xs.getD k (0, 0) = (x, y) := ⟨_, _, rfl⟩
      have h1 := (hg.2.2 k (by omega)).1
      have h2 := chord_order hg k (by omega)
      rw [hxy] at h1 h2
      simp only at h1 h2
      have hnum := regs_one hg hpl (by omega) hxy ((bothR_iff _ _).2 ⟨whole_mem n x (by omega) (by omega), whole_mem n y (by omega) (by omega)⟩)
      rw [List.take_succ_eq_append_getElem (by omega), regsF_snoc]
      have e1 : xs[k]'(by omega) = (x, y) := by rw [← hxy, List.getD_eq_getElem?_getD, List.getElem?_eq_getElem (by omega)]; rfl
      rw [e1, splitF_length hnum, ih (by omega)]
  have := key xs.length (Nat.le_refl _)
  rwa [List.take_length] at this

theorem sum_le (L : List (List Int)) (h : ∀ R ∈ L, R.length ≤ 60) : cellsOf L ≤ 60 * L.length := by
  unfold cellsOf
  induction L with
  | nil => simp
  | cons a t ih =>
    have h1 := h a (by simp)
    have h2 := ih fun R hR => h R (by simp [hR])
    simp only [List.map_cons, List.sum_cons, List.length_cons]
    omega

theorem regL_small {n : Nat} {xs : List (Int × Int)} (hg : goodC n xs) (hpl : allP xs xs.length = []) : cellsOf (regL n xs) ≤ 100000 ∧ (regL n xs).length ≤ 1000 := by
  have hl := hg.2.1
  have hp := hg.1
  have h1 := regL_length hg hpl
  refine ⟨?_, by omega⟩
  refine Nat.le_trans (sum_le _ fun R hR => ?_) (by omega)
  refine regs_lens (n := n) (xs := xs) xs [selT (fun _ => true) n] (fun S hS => ?_) R ((regL_perm n xs).mem_iff.1 hR)
  simp at hS
  subst hS
  have := selT_length (fun _ => true) n
  omega