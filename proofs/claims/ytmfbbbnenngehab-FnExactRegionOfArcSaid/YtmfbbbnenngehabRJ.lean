/- PlaneRegions, RegionSizes: both sides, the laws. -/
import Derived.Test.YtmfbbbnenngehabRD
import Derived.Test.YtmfbbbnenngehabRI
import Derived.Test.YtmfbbbnenngehabET
import Derived.Test.YtmfbbbnenngehabV1
import Derived.Test.YtmfbbbnenngehabK7
namespace Go.Proofs.Ytmfbbbnenngehab
open Go.RowKit
set_option linter.unusedVariables false

/-- A list's place in order. -/
def insL (r : List Int) : List (List Int) → List (List Int)
  | [] => [r]
  | a :: t => if lessL r a then r :: a :: t else a :: insL r t

theorem insL_perm (r : List Int) (L : List (List Int)) : (insL r L).Perm (r :: L) := by
  induction L with
  | nil => exact List.Perm.refl _
  | cons a t ih =>
    rw [insL]
    split
    · exact List.Perm.refl _
    · exact (ih.cons a).trans (List.Perm.swap r a t)

theorem insL_sorted (r : List Int) (L : List (List Int)) (h : SortedL L) : SortedL (insL r L) := by
  induction L with
  | nil => simp [insL, SortedL]
  | cons a t ih =>
    unfold SortedL at h ih ⊢
    rw [List.pairwise_cons] at h
    rw [insL]
    split
    · rename_i hl
      have har : lessL a r = false := by
        rw [lessL_no]
        unfold lessL at hl
        rw [decide_eq_true_eq] at hl
        omega
      rw [List.pairwise_cons]
      refine ⟨fun b hb => ?_, List.pairwise_cons.2 h⟩
      rcases List.mem_cons.1 hb with rfl | hb
      · exact har
      · have h2 := h.1 b hb
        rw [lessL_no] at h2 har ⊢
        exact (cmpL_trans har h2).1
    · rename_i hl
      rw [List.pairwise_cons]
      refine ⟨fun b hb => ?_, ih h.2⟩
      rcases List.mem_cons.1 ((insL_perm r t).mem_iff.1 hb) with rfl | hb
      · simpa using hl
      · exact h.1 b hb

/-- The regions, in order. -/
def regL (n : Nat) (xs : List (Int × Int)) : List (List Int) := (regsF [selT (fun _ => true) n] xs).foldr insL []

theorem regL_perm (n : Nat) (xs : List (Int × Int)) : (regL n xs).Perm (regsF [selT (fun _ => true) n] xs) := by
  unfold regL
  generalize regsF [selT (fun _ => true) n] xs = L
  induction L with
  | nil => exact List.Perm.refl _
  | cons a t ih => exact (insL_perm a _).trans (ih.cons a)

theorem regL_sorted (n : Nat) (xs : List (Int × Int)) : SortedL (regL n xs) := by
  unfold regL
  generalize regsF [selT (fun _ => true) n] xs = L
  induction L with
  | nil => exact List.Pairwise.nil
  | cons a t ih => exact insL_sorted a _ ih

theorem regL_is {n : Nat} {xs : List (Int × Int)} {yss : List (List Int)} (hp : yss.Perm (regsF [selT (fun _ => true) n] xs)) (hs : SortedL yss) : yss = regL n xs :=
  SortedL.unique (hp.trans (regL_perm n xs).symm) hs (regL_sorted n xs)

theorem plane_yes {p : Int} {xs : List (Int × Int)} (h : allP xs xs.length = []) : (((allP xs xs.length).length : Int) == 0) = true := by rw [h]; rfl
theorem plane_no {p : Int} {xs : List (Int × Int)} (h : ¬ allP xs xs.length = []) : (((allP xs xs.length).length : Int) == 0) = false := by
  rw [beq_eq_false_iff_ne]
  intro e
  exact h (List.eq_nil_of_length_eq_zero (by omega))

theorem rowsIn_low {eo ei : TypeId} {w : World} {B B' T : Nat} {v : Value} {xss : List (List Int)} (h : RowsIn eo ei w B T v xss) (hB : B' ≤ B) : RowsIn eo ei w B' T v xss := by
  obtain ⟨vs, h⟩ := h
  exact ⟨vs, h.lower hB⟩

/-- The program's regions. -/
theorem regions_gives (n : Nat) (a0 : Option Addr) (cap : Nat) (xs : List (Int × Int)) (B T : Nat) (w : World) (h : PairsIn 47 w B T (.slice a0 xs.length cap) xs) (hT : T ≤ w.heap.size) (hg : goodC n xs) (hpl : allP xs xs.length = []) :
    Calls Try.prog 37 #[.agg #[.int .i64 n, .slice a0 xs.length cap]] w fun e w' => ∃ v, e = .returned v ∧ RowsIn 34 3 w' w.heap.size w'.heap.size v (regL n xs) ∧ Below w.heap.size w w' := by
  refine (regions_any n a0 cap xs B T w h hT hg hpl).mono ?_
  rintro e w' ⟨v, yss, rfl, hR, hp, hs, hb⟩
  rw [regL_is hp hs] at hR
  exact ⟨v, rfl, hR, hb⟩

/-- The model's. -/
theorem reList_gives (n : Nat) (u : Value) (xs : List (Int × Int)) (B T : Nat) (w : World) (h : PairsIn 47 w B T u xs) (hT : T ≤ w.heap.size) (hg : goodC n xs) (hpl : allP xs xs.length = []) :
    Calls Try.prog 33 #[.int .i64 n, u] w fun e w' => ∃ v, e = .returned v ∧ RowsIn 34 3 w' w.heap.size w'.heap.size v (regL n xs) ∧ Below w.heap.size w w' := by
  refine (reList_any n u xs B T w h hT hg hpl).mono ?_
  rintro e w' ⟨v, rs, rfl, hO, hp, hs, hb⟩
  have hR := hO.rowsIn
  rw [regL_is hp hs] at hR
  exact ⟨v, rfl, hR, hb⟩

set_option maxHeartbeats 400000 in
theorem planeM_yes (p : Int) (a0 : Option Addr) (cap : Nat) (xs : List (Int × Int)) (B T : Nat) (w : World) (h : PairsIn 47 w B T (.slice a0 xs.length cap) xs) (hT : T ≤ w.heap.size) (hg : goodC p xs) : Calls Try.prog 32 #[.int .i64 p, .slice a0 xs.length cap] w fun e w' => e = .returned (.bool (((allP xs xs.length).length : Int) == 0)) ∧ Below w.heap.size w w' := by
  have hl := hg.2.1
  have ho := chord_order hg
  obtain ⟨ps, hps⟩ : ∃ ps, allP xs xs.length = ps := ⟨_, rfl⟩
  rw [hps]
  have HPS := Lib.hid hps
  clear hps
  go_enter Try.func32, Try.ntmps32
  go_wp2_with (first | (go_at_call 50; (with_reducible refine (cdGood_yes p _ xs B T _ h hg).mono ?_); rintro e w1 ⟨rfl, hb1⟩; have h1 := h.keep (belowSame hb1 hT); have hz1 := hb1.size) | (go_at_call 58; (with_reducible refine (cdPairs_any _ xs B T _ h1 ho (Nat.le_trans hl (by omega))).mono ?_); rw [HPS.out]; rintro e w2 ⟨v, rfl, hr, hb2⟩; (obtain ⟨vs, hv⟩ := hr); (obtain ⟨a2, c2, g2, rfl, _, hm2, _⟩ := hv.view); clear hv))
  go_ret
  exact ⟨rfl, hb1.trans (hb2.mono hz1)⟩

set_option maxHeartbeats 400000 in
theorem planeM_no (p : Int) (a0 : Option Addr) (cap : Nat) (xs : List (Int × Int)) (B T : Nat) (w : World) (h : PairsIn 47 w B T (.slice a0 xs.length cap) xs) (hT : T ≤ w.heap.size) (hg : ¬ goodC p xs) : Calls Try.prog 32 #[.int .i64 p, .slice a0 xs.length cap] w fun e w' => e = .returned (.bool false) ∧ Below w.heap.size w w' := by
  go_enter Try.func32, Try.ntmps32
  go_wp2_with (first | (go_at_call 50; (with_reducible refine (cdGood_no p _ xs B T _ h hg).mono ?_); rintro e w1 ⟨rfl, hb1⟩))
  go_ret
  exact ⟨rfl, hb1⟩

set_option maxHeartbeats 400000 in
theorem told_regions (n : Nat) (a0 : Option Addr) (cap : Nat) (xs : List (Int × Int)) (B T : Nat) (w : World) (h : PairsIn 47 w B T (.slice a0 xs.length cap) xs) (hT : T ≤ w.heap.size) (hg : goodC n xs) (hpl : allP xs xs.length = []) : Calls Try.prog 35 #[.int .i64 n, .slice a0 xs.length cap, .func (.func 36) #[] #[], .func (.func 37) #[] #[]] w (Gives (RowsIn 34 3) w (regL n xs) true) := by
  have HS := Lib.hid (plane_yes (p := n) hpl)
  go_enter Try.func35, Try.ntmps35
  go_wp2_with (first | (go_at_call 36; (refine (isPlaneD_yes n _ _ xs B T _ (h.keep (belowSame (by go_grown) hT)) (Nat.le_trans hT (by first | (simp; done) | (simp; omega))) hg).mono ?_); rw [HS.out]; rintro e w1 ⟨rfl, hb1⟩; (have c0 : w1.cell? ⟨w.heap.size, 0, none⟩ = some (.int .i64 n) := cellB hb1 (by go_simp)); (have c1 : w1.cell? ⟨w.heap.size, 1, none⟩ = some (.slice a0 xs.length cap) := cellB hb1 (by go_simp)); (have hB1 : Below w.heap.size w w1 := Below.trans (by go_grown) (hb1.mono (by first | omega | (simp; done) | (simp; omega)))); have hz1 := hB1.size) | (go_at_call 37; (with_reducible refine (regions_gives n _ _ xs B T _ (h.keep (belowSame hB1 hT)) (by omega) hg hpl).mono ?_); rintro e w2 ⟨v, rfl, hI, hb2⟩))
  go_ret2
  exact ⟨_, rfl, rowsIn_low hI hz1, hB1.trans (hb2.mono hz1)⟩

set_option maxHeartbeats 400000 in
theorem told_ISS_not (p : Int) (a0 : Option Addr) (cap : Nat) (xs : List (Int × Int)) (B T : Nat) (w : World) (h : PairsIn 47 w B T (.slice a0 xs.length cap) xs) (hT : T ≤ w.heap.size) (f : Value) (hg : goodC p xs) (hpl : ¬ allP xs xs.length = []) : Calls Try.prog 35 #[.int .i64 p, .slice a0 xs.length cap, .func (.func 36) #[] #[], f] w (Gives (RowsIn 34 3) w [] false) := by
  have HS := Lib.hid (plane_no (p := p) hpl)
  go_enter Try.func35, Try.ntmps35
  go_wp2_with (first | (go_at_call 36; (refine (isPlaneD_yes p _ _ xs B T _ (h.keep (belowSame (by go_grown) hT)) (Nat.le_trans hT (by first | (simp; done) | (simp; omega))) hg).mono ?_); rw [HS.out]; rintro e w1 ⟨rfl, hb1⟩))
  go_ret2
  exact ⟨_, rfl, RowsIn.nil _ _ _ _ _, Below.trans (by go_grown) (hb1.mono (by first | omega | (simp; done) | (simp; omega)))⟩

set_option maxHeartbeats 400000 in
theorem told_IS_not (p : Int) (a0 : Option Addr) (cap : Nat) (xs : List (Int × Int)) (B T : Nat) (w : World) (h : PairsIn 47 w B T (.slice a0 xs.length cap) xs) (hT : T ≤ w.heap.size) (f : Value) (hg : goodC p xs) (hpl : ¬ allP xs xs.length = []) : Calls Try.prog 39 #[.int .i64 p, .slice a0 xs.length cap, .func (.func 36) #[] #[], f] w (Gives (IntsIn 3) w [] false) := by
  have HS := Lib.hid (plane_no (p := p) hpl)
  go_enter Try.func39, Try.ntmps39
  go_wp2_with (first | (go_at_call 36; (refine (isPlaneD_yes p _ _ xs B T _ (h.keep (belowSame (by go_grown) hT)) (Nat.le_trans hT (by first | (simp; done) | (simp; omega))) hg).mono ?_); rw [HS.out]; rintro e w1 ⟨rfl, hb1⟩))
  go_ret2
  exact ⟨_, rfl, IntsIn.nil _ _ _ _, Below.trans (by go_grown) (hb1.mono (by first | omega | (simp; done) | (simp; omega)))⟩

set_option maxHeartbeats 400000 in
theorem told_ISS_bad (p : Int) (a0 : Option Addr) (cap : Nat) (xs : List (Int × Int)) (B T : Nat) (w : World) (h : PairsIn 47 w B T (.slice a0 xs.length cap) xs) (hT : T ≤ w.heap.size) (f : Value) (hg : ¬ goodC p xs) : Calls Try.prog 35 #[.int .i64 p, .slice a0 xs.length cap, .func (.func 36) #[] #[], f] w (Gives (RowsIn 34 3) w [] false) := by
  go_enter Try.func35, Try.ntmps35
  go_wp2_with (first | (go_at_call 36; (with_reducible refine (isPlaneD_no p _ _ xs B T _ (h.keep (belowSame (by go_grown) hT)) (Nat.le_trans hT (by first | (simp; done) | (simp; omega))) hg).mono ?_); rintro e w1 ⟨rfl, hb1⟩))
  go_ret2
  exact ⟨_, rfl, RowsIn.nil _ _ _ _ _, Below.trans (by go_grown) (hb1.mono (by first | omega | (simp; done) | (simp; omega)))⟩

set_option maxHeartbeats 400000 in
theorem told_IS_bad (p : Int) (a0 : Option Addr) (cap : Nat) (xs : List (Int × Int)) (B T : Nat) (w : World) (h : PairsIn 47 w B T (.slice a0 xs.length cap) xs) (hT : T ≤ w.heap.size) (f : Value) (hg : ¬ goodC p xs) : Calls Try.prog 39 #[.int .i64 p, .slice a0 xs.length cap, .func (.func 36) #[] #[], f] w (Gives (IntsIn 3) w [] false) := by
  go_enter Try.func39, Try.ntmps39
  go_wp2_with (first | (go_at_call 36; (with_reducible refine (isPlaneD_no p _ _ xs B T _ (h.keep (belowSame (by go_grown) hT)) (Nat.le_trans hT (by first | (simp; done) | (simp; omega))) hg).mono ?_); rintro e w1 ⟨rfl, hb1⟩))
  go_ret2
  exact ⟨_, rfl, IntsIn.nil _ _ _ _, Below.trans (by go_grown) (hb1.mono (by first | omega | (simp; done) | (simp; omega)))⟩

set_option maxHeartbeats 400000 in
theorem iPlaneR_yes (n : Nat) (a0 : Option Addr) (cap : Nat) (xs : List (Int × Int)) (B T : Nat) (w : World) (h : PairsIn 47 w B T (.slice a0 xs.length cap) xs) (hT : T ≤ w.heap.size) (hg : goodC n xs) (hpl : allP xs xs.length = []) : Calls Try.prog 12 #[.int .i64 n, .slice a0 xs.length cap] w (Gives (RowsIn 34 3) w (regL n xs) true) := by
  go_enter Try.func12, Try.ntmps12
  go_wp2_with (first | (go_at_call 35; (with_reducible refine (told_regions n _ _ xs B T _ h hT hg hpl).mono ?_); rintro e w1 ⟨v, rfl, hI, hb1⟩))
  go_ret2
  exact ⟨_, rfl, hI, hb1⟩

set_option maxHeartbeats 400000 in
theorem iPlaneR_not (p : Int) (a0 : Option Addr) (cap : Nat) (xs : List (Int × Int)) (B T : Nat) (w : World) (h : PairsIn 47 w B T (.slice a0 xs.length cap) xs) (hT : T ≤ w.heap.size) (hg : goodC p xs) (hpl : ¬ allP xs xs.length = []) : Calls Try.prog 12 #[.int .i64 p, .slice a0 xs.length cap] w (Gives (RowsIn 34 3) w [] false) := by
  go_enter Try.func12, Try.ntmps12
  go_wp2_with (first | (go_at_call 35; (with_reducible refine (told_ISS_not p _ _ xs B T _ h hT _ hg hpl).mono ?_); rintro e w1 ⟨v, rfl, hI, hb1⟩))
  go_ret2
  exact ⟨_, rfl, hI, hb1⟩

set_option maxHeartbeats 400000 in
theorem iPlaneR_bad (p : Int) (a0 : Option Addr) (cap : Nat) (xs : List (Int × Int)) (B T : Nat) (w : World) (h : PairsIn 47 w B T (.slice a0 xs.length cap) xs) (hT : T ≤ w.heap.size) (hg : ¬ goodC p xs) : Calls Try.prog 12 #[.int .i64 p, .slice a0 xs.length cap] w (Gives (RowsIn 34 3) w [] false) := by
  go_enter Try.func12, Try.ntmps12
  go_wp2_with (first | (go_at_call 35; (with_reducible refine (told_ISS_bad p _ _ xs B T _ h hT _ hg).mono ?_); rintro e w1 ⟨v, rfl, hI, hb1⟩))
  go_ret2
  exact ⟨_, rfl, hI, hb1⟩

set_option maxHeartbeats 400000 in
theorem sPlaneR_yes (n : Nat) (a0 : Option Addr) (cap : Nat) (xs : List (Int × Int)) (B T : Nat) (w : World) (h : PairsIn 47 w B T (.slice a0 xs.length cap) xs) (hT : T ≤ w.heap.size) (hg : goodC n xs) (hpl : allP xs xs.length = []) : Calls Try.prog 10 #[.int .i64 n, .slice a0 xs.length cap] w (Gives (RowsIn 34 3) w (regL n xs) true) := by
  have HS := Lib.hid (plane_yes (p := n) hpl)
  go_enter Try.func10, Try.ntmps10
  go_wp2_with (first | (go_at_call 32; (refine (planeM_yes n _ _ xs B T _ h hT hg).mono ?_); rw [HS.out]; rintro e w1 ⟨rfl, hb1⟩; have hz1 := hb1.size) | (go_at_call 33; (with_reducible refine (reList_gives n _ xs B T _ (h.keep (belowSame hb1 hT)) (by omega) hg hpl).mono ?_); rintro e w2 ⟨v, rfl, hI, hb2⟩))
  go_ret2
  exact ⟨_, rfl, rowsIn_low hI hz1, hb1.trans (hb2.mono hz1)⟩

set_option maxHeartbeats 400000 in
theorem sPlaneR_not (p : Int) (a0 : Option Addr) (cap : Nat) (xs : List (Int × Int)) (B T : Nat) (w : World) (h : PairsIn 47 w B T (.slice a0 xs.length cap) xs) (hT : T ≤ w.heap.size) (hg : goodC p xs) (hpl : ¬ allP xs xs.length = []) : Calls Try.prog 10 #[.int .i64 p, .slice a0 xs.length cap] w (Gives (RowsIn 34 3) w [] false) := by
  have HS := Lib.hid (plane_no (p := p) hpl)
  go_enter Try.func10, Try.ntmps10
  go_wp2_with (first | (go_at_call 32; (refine (planeM_yes p _ _ xs B T _ h hT hg).mono ?_); rw [HS.out]; rintro e w1 ⟨rfl, hb1⟩))
  go_ret2
  exact ⟨_, rfl, RowsIn.nil _ _ _ _ _, hb1⟩

set_option maxHeartbeats 400000 in
theorem sPlaneR_bad (p : Int) (a0 : Option Addr) (cap : Nat) (xs : List (Int × Int)) (B T : Nat) (w : World) (h : PairsIn 47 w B T (.slice a0 xs.length cap) xs) (hT : T ≤ w.heap.size) (hg : ¬ goodC p xs) : Calls Try.prog 10 #[.int .i64 p, .slice a0 xs.length cap] w (Gives (RowsIn 34 3) w [] false) := by
  go_enter Try.func10, Try.ntmps10
  go_wp2_with (first | (go_at_call 32; (with_reducible refine (planeM_no p _ _ xs B T _ h hT hg).mono ?_); rintro e w1 ⟨rfl, hb1⟩))
  go_ret2
  exact ⟨_, rfl, RowsIn.nil _ _ _ _ _, hb1⟩

theorem regs_lens {n : Nat} {xs : List (Int × Int)} (cs : List (Int × Int)) : ∀ L : List (List Int), (∀ R ∈ L, R.length ≤ 60) → ∀ R ∈ regsF L cs, R.length ≤ 60 := by
  induction cs with
  | nil => intro L h; exact h
  | cons c cs ih =>
    intro L h
    rw [regsF_cons]
    refine ih _ fun R hR => ?_
    obtain ⟨S, hS, hRS⟩ := List.mem_flatMap.1 hR
    unfold splitR at hRS
    split at hRS
    · simp at hRS
      rcases hRS with rfl | rfl <;> exact Nat.le_trans (List.length_filter_le _ _) (h S hS)
    · simp at hRS
      subst hRS
      exact h _ hS

theorem splitF_length {c : Int × Int} {L : List (List Int)} (h : numR c L = 1) : (splitF L c).length = L.length + 1 := by
  obtain ⟨h1, h2⟩ := splitF_first h
  rw [h2]
  simp
  omega

theorem regL_length {n : Nat} {xs : List (Int × Int)} (hg : goodC n xs) (hpl : allP xs xs.length = []) : (regL n xs).length = xs.length + 1 := by
  rw [(regL_perm n xs).length_eq]
  have key : ∀ k, k ≤ xs.length → (regsF [selT (fun _ => true) n] (xs.take k)).length = k + 1 := by
    intro k
    induction k with
    | zero => intro _; simp [regsF]
    | succ k ih =>
      intro hk
      obtain ⟨x, y, hxy⟩ : ∃ x y, xs.getD k (0, 0) = (x, y) := ⟨_, _, rfl⟩
      have h1 := (hg.2.2 k (by omega)).1
      have h2 := chord_order hg k (by omega)
      rw [hxy] at h1 h2
      simp only at h1 h2
      have hnum := regs_one hg hpl (by omega) hxy ((bothR_iff _ _).2 ⟨whole_mem n x (by omega) (by omega), whole_mem n y (by omega) (by omega)⟩)
      rw [List.take_succ_eq_append_getElem (by omega), regsF_snoc]
      have e1 : xs[k]'(by omega) = (x, y) := by rw [← hxy, List.getD_eq_getElem?_getD, List.getElem?_eq_getElem (by omega)]; rfl
      rw [e1, splitF_length hnum, ih (by omega)]
  have := key xs.length (Nat.le_refl _)
  rwa [List.take_length] at this

theorem sum_le (L : List (List Int)) (h : ∀ R ∈ L, R.length ≤ 60) : cellsOf L ≤ 60 * L.length := by
  unfold cellsOf
  induction L with
  | nil => simp
  | cons a t ih =>
    have h1 := h a (by simp)
    have h2 := ih fun R hR => h R (by simp [hR])
    simp only [List.map_cons, List.sum_cons, List.length_cons]
    omega

theorem regL_small {n : Nat} {xs : List (Int × Int)} (hg : goodC n xs) (hpl : allP xs xs.length = []) : cellsOf (regL n xs) ≤ 100000 ∧ (regL n xs).length ≤ 1000 := by
  have hl := hg.2.1
  have hp := hg.1
  have h1 := regL_length hg hpl
  refine ⟨?_, by omega⟩
  refine Nat.le_trans (sum_le _ fun R hR => ?_) (by omega)
  refine regs_lens (n := n) (xs := xs) xs [selT (fun _ => true) n] (fun S hS => ?_) R ((regL_perm n xs).mem_iff.1 hR)
  simp at hS
  subst hS
  have := selT_length (fun _ => true) n
  omega

set_option maxHeartbeats 1000000 in
theorem core_PlaneRegions (p : Int) (v : Value) (xs : List (Int × Int)) (x : List (List Int)) (b : Bool) (w : World) (hA : ArgP w v xs) (hn : xs.length ≤ 1048576) (hx : cellsOf x ≤ 1000000) (hr : x.length ≤ 1000000)
    (hs : ∀ (W : World) (u : Value) (B T : Nat), PairsIn 47 W B T u xs → T ≤ W.heap.size → Calls Try.prog 10 #[.int .i64 p, u] W (Gives (RowsIn 34 3) W x b))
    (hi : ∀ (W : World) (u : Value) (B T : Nat), PairsIn 47 W B T u xs → T ≤ W.heap.size → Calls Try.prog 12 #[.int .i64 p, u] W (Gives (RowsIn 34 3) W x b)) :
    Calls Try.prog 3 #[.int .i64 p, v] w fun e w' => e = .returned (.bool true) ∧ Below w.heap.size w w' := by
  have hA1 := hA
  obtain ⟨a0, cap, a, rfl, _⟩ := hA1
  have HS := Lib.hid hs
  have HI := Lib.hid hi
  have HA := Lib.hid hA
  clear hs hi hA
  go_enter Try.func3, Try.ntmps3
  go_wp2_with fail
  refine (szChordS_yes _ _ _ _ hn).mono ?_
  rintro e w0 ⟨rfl, rfl⟩
  go_wp2_with fail
  refine (toChordS_any _ _ _ (HA.out.later (by go_grown)) hn).mono ?_
  rintro e w1 ⟨va, rfl, ka_1, hb1⟩
  have n1 : w.heap.size ≤ w1.heap.size := by have := hb1.size; (try simp at this); omega
  have B1 : Below w.heap.size w w1 := Below.trans (by go_grown) (hb1.mono (by first | (simp; done) | (simp; omega)))
  go_wp2_with fail
  refine (HS.out _ _ _ _ ka_1 (by omega)).mono ?_
  rintro e w2 ⟨vw, rfl, kw_2, hb2⟩
  have n2 := hb2.size
  have B2 := B1.trans (hb2.mono (by omega))
  have ka_2 := ka_1.keep (belowSame hb2 (by omega))
  go_wp2_with fail
  refine (toChordS_any _ _ _ (HA.out.later B2) hn).mono ?_
  rintro e w3 ⟨vc, rfl, kc_3, hb3⟩
  have n3 := hb3.size
  have B3 := B2.trans (hb3.mono (by omega))
  have ka_3 := ka_2.keep (belowSame hb3 (by omega))
  have kw_3 := kw_2.keep (belowSame hb3 (by omega))
  go_wp2_with fail
  refine (HI.out _ _ _ _ kc_3 (by omega)).mono ?_
  rintro e w4 ⟨vg, rfl, kg_4, hb4⟩
  have n4 := hb4.size
  have B4 := B3.trans (hb4.mono (by omega))
  have ka_4 := ka_3.keep (belowSame hb4 (by omega))
  have kw_4 := kw_3.keep (belowSame hb4 (by omega))
  have kc_4 := kc_3.keep (belowSame hb4 (by omega))
  go_wp2_with fail
  refine (eqIntSS_in _ _ x _ _ _ _ _ _ _ kg_4 kw_4).mono ?_
  rintro e w5 ⟨rfl, hb5⟩
  have n5 := hb5.size
  have B5 := B4.trans (hb5.mono (by omega))
  have ka_5 := ka_4.keep (belowSame hb5 (by omega))
  have kw_5 := kw_4.keep (belowSame hb5 (by omega))
  have kc_5 := kc_4.keep (belowSame hb5 (by omega))
  have kg_5 := kg_4.keep (belowSame hb5 (by omega))
  go_wp2_with fail
  refine (toChordS_any _ _ _ (HA.out.later B5) hn).mono ?_
  rintro e w6 ⟨vd, rfl, kd_6, hb6⟩
  have n6 := hb6.size
  have B6 := B5.trans (hb6.mono (by omega))
  have ka_6 := ka_5.keep (belowSame hb6 (by omega))
  have kw_6 := kw_5.keep (belowSame hb6 (by omega))
  have kc_6 := kc_5.keep (belowSame hb6 (by omega))
  have kg_6 := kg_5.keep (belowSame hb6 (by omega))
  go_wp2_with fail
  refine (eqChordS_in _ _ _ _ _ _ _ _ _ kc_6 kd_6).mono ?_
  rintro e w7 ⟨rfl, hb7⟩
  have n7 := hb7.size
  have B7 := B6.trans (hb7.mono (by omega))
  have ka_7 := ka_6.keep (belowSame hb7 (by omega))
  have kw_7 := kw_6.keep (belowSame hb7 (by omega))
  have kc_7 := kc_6.keep (belowSame hb7 (by omega))
  have kg_7 := kg_6.keep (belowSame hb7 (by omega))
  have kd_7 := kd_6.keep (belowSame hb7 (by omega))
  go_wp2_with fail
  refine (markChordS_in _ _ 1 _ _ _ _ kc_7 (by omega) (by omega) (by omega)).mono ?_
  rintro e w8 ⟨rfl, mc_8, o8⟩
  have n8 := o8.size
  have B8 := B7.trans (o8.below (C := w.heap.size) (by omega) (by omega))
  have ka_8 := ka_7.keep (o8.same_in (by omega) (by omega))
  have kw_8 := kw_7.keep (o8.same_in (by omega) (by omega))
  have kg_8 := kg_7.keep (o8.same_in (by omega) (by omega))
  have kd_8 := kd_7.keep (o8.same_in (by omega) (by omega))
  have kc_8 := mc_8
  go_wp2_with fail
  refine (eqIntSS_in _ _ x _ _ _ _ _ _ _ kg_8 kw_8).mono ?_
  rintro e w9 ⟨rfl, hb9⟩
  have n9 := hb9.size
  have B9 := B8.trans (hb9.mono (by omega))
  have ka_9 := ka_8.keep (belowSame hb9 (by omega))
  have kw_9 := kw_8.keep (belowSame hb9 (by omega))
  have kc_9 := kc_8.keep (belowSame hb9 (by omega))
  have kg_9 := kg_8.keep (belowSame hb9 (by omega))
  have kd_9 := kd_8.keep (belowSame hb9 (by omega))
  go_wp2_with fail
  refine (markIntSS_in _ x 1 _ _ _ _ _ kg_9 (by decide) (by omega) (by omega) (by omega) hr).mono ?_
  rintro e w10 ⟨rfl, mg_10, o10⟩
  have n10 := o10.size
  have B10 := B9.trans (o10.below (C := w.heap.size) (by omega) (by omega))
  have ka_10 := ka_9.keep (o10.same_in (by omega) (by omega))
  have kw_10 := kw_9.keep (o10.same_in (by omega) (by omega))
  have kc_10 := kc_9.keep (o10.same_in (by omega) (by omega))
  have kd_10 := kd_9.keep (o10.same_in (by omega) (by omega))
  have kg_10 := mg_10
  go_wp2_with fail
  refine (heldIntSS_in _ x 1 _ _ _ _ _ kg_10 (by omega) (by omega) (by omega) hr).mono ?_
  rintro e w11 ⟨rfl, hb11⟩
  have n11 := hb11.size
  have B11 := B10.trans (hb11.mono (by omega))
  have ka_11 := ka_10.keep (belowSame hb11 (by omega))
  have kw_11 := kw_10.keep (belowSame hb11 (by omega))
  have kc_11 := kc_10.keep (belowSame hb11 (by omega))
  have kg_11 := kg_10.keep (belowSame hb11 (by omega))
  have kd_11 := kd_10.keep (belowSame hb11 (by omega))
  go_wp2_with fail
  refine (toChordS_any _ _ _ (HA.out.later B11) hn).mono ?_
  rintro e w12 ⟨ve, rfl, ke_12, hb12⟩
  have n12 := hb12.size
  have B12 := B11.trans (hb12.mono (by omega))
  have ka_12 := ka_11.keep (belowSame hb12 (by omega))
  have kw_12 := kw_11.keep (belowSame hb12 (by omega))
  have kc_12 := kc_11.keep (belowSame hb12 (by omega))
  have kg_12 := kg_11.keep (belowSame hb12 (by omega))
  have kd_12 := kd_11.keep (belowSame hb12 (by omega))
  go_wp2_with fail
  refine (HI.out _ _ _ _ ke_12 (by omega)).mono ?_
  rintro e w13 ⟨vh, rfl, kh_13, hb13⟩
  have n13 := hb13.size
  have B13 := B12.trans (hb13.mono (by omega))
  have ka_13 := ka_12.keep (belowSame hb13 (by omega))
  have kw_13 := kw_12.keep (belowSame hb13 (by omega))
  have kc_13 := kc_12.keep (belowSame hb13 (by omega))
  have kg_13 := kg_12.keep (belowSame hb13 (by omega))
  have kd_13 := kd_12.keep (belowSame hb13 (by omega))
  have ke_13 := ke_12.keep (belowSame hb13 (by omega))
  go_wp2_with fail
  refine (eqIntSS_in _ _ x _ _ _ _ _ _ _ kh_13 kw_13).mono ?_
  rintro e w14 ⟨rfl, hb14⟩
  have n14 := hb14.size
  have B14 := B13.trans (hb14.mono (by omega))
  have ka_14 := ka_13.keep (belowSame hb14 (by omega))
  have kw_14 := kw_13.keep (belowSame hb14 (by omega))
  have kc_14 := kc_13.keep (belowSame hb14 (by omega))
  have kg_14 := kg_13.keep (belowSame hb14 (by omega))
  have kd_14 := kd_13.keep (belowSame hb14 (by omega))
  have ke_14 := ke_13.keep (belowSame hb14 (by omega))
  have kh_14 := kh_13.keep (belowSame hb14 (by omega))
  go_wp2_with fail
  refine (heldIntSS_in _ x 1 _ _ _ _ _ kg_14 (by omega) (by omega) (by omega) hr).mono ?_
  rintro e w15 ⟨rfl, hb15⟩
  have n15 := hb15.size
  have B15 := B14.trans (hb15.mono (by omega))
  have ka_15 := ka_14.keep (belowSame hb15 (by omega))
  have kw_15 := kw_14.keep (belowSame hb15 (by omega))
  have kc_15 := kc_14.keep (belowSame hb15 (by omega))
  have kg_15 := kg_14.keep (belowSame hb15 (by omega))
  have kd_15 := kd_14.keep (belowSame hb15 (by omega))
  have ke_15 := ke_14.keep (belowSame hb15 (by omega))
  have kh_15 := kh_14.keep (belowSame hb15 (by omega))
  go_wp2_with fail
  go_ret
  exact ⟨rfl, B15⟩

set_option maxHeartbeats 400000 in
theorem long_PlaneRegions (p : Int) (v : Value) (xs : List (Int × Int)) (w : World) (hA : ArgP w v xs) (hn : ¬ xs.length ≤ 1048576) :
    Calls Try.prog 3 #[.int .i64 p, v] w fun e w' => e = .returned (.bool true) ∧ Below w.heap.size w w' := by
  obtain ⟨a0, cap, a, rfl, _, hm, _⟩ := hA
  go_enter Try.func3, Try.ntmps3
  go_wp2_with fail
  refine (szChordS_no _ _ _ _ (by omega) hm).mono ?_
  rintro e w0 ⟨rfl, rfl⟩
  go_wp2_with fail
  go_ret
  exact ⟨rfl, by go_grown⟩

theorem walk_PlaneRegions (p : Int) (v : Value) (xs : List (Int × Int)) (w : World) (_ : (Lit.int .i64 p).wf = true) (hA : ArgP w v xs) :
    Calls Try.prog 3 #[.int .i64 p, v] w fun e w' => e = .returned (.bool true) ∧ Below w.heap.size w w' := by
  by_cases hn : xs.length ≤ 1048576
  · by_cases hg : goodC p xs
    · by_cases hpl : allP xs xs.length = []
      · obtain ⟨n, rfl⟩ := Int.eq_ofNat_of_zero_le (show 0 ≤ p by have := hg.1; omega)
        obtain ⟨hs1, hs2⟩ := regL_small hg hpl
        exact core_PlaneRegions _ v xs (regL n xs) true w hA hn (by omega) (by omega) (fun W u B T h hT => by obtain ⟨a0, cap, g0, rfl, _⟩ := h.pairs.view; exact sPlaneR_yes n a0 cap xs B T W h hT hg hpl) (fun W u B T h hT => by obtain ⟨a0, cap, g0, rfl, _⟩ := h.pairs.view; exact iPlaneR_yes n a0 cap xs B T W h hT hg hpl)
      · exact core_PlaneRegions p v xs [] false w hA hn (by simp [cellsOf]) (by simp) (fun W u B T h hT => by obtain ⟨a0, cap, g0, rfl, _⟩ := h.pairs.view; exact sPlaneR_not p a0 cap xs B T W h hT hg hpl) (fun W u B T h hT => by obtain ⟨a0, cap, g0, rfl, _⟩ := h.pairs.view; exact iPlaneR_not p a0 cap xs B T W h hT hg hpl)
    · exact core_PlaneRegions p v xs [] false w hA hn (by simp [cellsOf]) (by simp) (fun W u B T h hT => by obtain ⟨a0, cap, g0, rfl, _⟩ := h.pairs.view; exact sPlaneR_bad p a0 cap xs B T W h hT hg) (fun W u B T h hT => by obtain ⟨a0, cap, g0, rfl, _⟩ := h.pairs.view; exact iPlaneR_bad p a0 cap xs B T W h hT hg)
  · exact long_PlaneRegions p v xs w hA hn
end Go.Proofs.Ytmfbbbnenngehab
