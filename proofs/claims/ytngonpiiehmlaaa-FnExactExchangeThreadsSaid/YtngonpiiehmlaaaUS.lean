/- slices.BinarySearchFunc over threads in order. -/
import Derived.Test.YtngonpiiehmlaaaUP
import Derived.Test.YtngonpiiehmlaaaUT
import Derived.Test.YtngonpiiehmlaaaP3
namespace Go.Proofs.Ytngonpiiehmlaaa
open Go.RowKit
set_option linter.unusedVariables false

theorem headC_unique (c : Int × Int) (xs : List (Int × Int)) (i : Nat) (hi : i ≤ xs.length) (h1 : ∀ k, k < i → lessC (xs.getD k (0, 0)) c = true) (h2 : i < xs.length → lessC (xs.getD i (0, 0)) c = false) : headC c xs = i := by
  have a1 := headC_le c xs
  rcases Nat.lt_trichotomy (headC c xs) i with h | h | h
  · have := headC_stop c xs (by omega)
    rw [h1 _ h] at this
    cases this
  · exact h
  · have := headC_less c xs i h
    rw [h2 (by omega)] at this
    cases this

/-- Threads in order. -/
theorem good_less {xs : List (Int × Int)} (hg : goodT xs) (i j : Nat) (hij : i < j) (hj : j < xs.length) : lessC (xs.getD i (0, 0)) (xs.getD j (0, 0)) = true := by
  induction j with
  | zero => omega
  | succ j ih =>
    have h1 := (hg.2 (j + 1) hj).2 (by omega)
    rw [show j + 1 - 1 = j by omega] at h1
    by_cases e : i = j
    · rw [e]; exact h1
    · exact lessC_trans (ih (by omega) (by omega)) h1

theorem less_down {xs : List (Int × Int)} (hg : goodT xs) (c : Int × Int) (i j : Nat) (hij : i ≤ j) (hj : j < xs.length) (h : lessC (xs.getD j (0, 0)) c = true) : lessC (xs.getD i (0, 0)) c = true := by
  by_cases e : i = j
  · rw [e]; exact h
  · exact lessC_trans (good_less hg i j (by omega) hj) h

theorem notless_up {xs : List (Int × Int)} (hg : goodT xs) (c : Int × Int) (i j : Nat) (hij : i ≤ j) (hj : j < xs.length) (h : lessC (xs.getD i (0, 0)) c = false) : lessC (xs.getD j (0, 0)) c = false := by
  cases e : lessC (xs.getD j (0, 0)) c with
  | false => rfl
  | true => rw [less_down hg c i j hij hj e] at h; cases h

def thereAt (xs : List (Int × Int)) (c d : Int) : Bool := decide (headC (c, d) xs < xs.length ∧ xs.getD (headC (c, d) xs) (0, 0) = (c, d))

set_option maxHeartbeats 1000000 in
theorem bsearch_any (a0 : Option Addr) (cap : Nat) (xs : List (Int × Int)) (c d : Int) (B T : Nat) (w : World) (h : PairsIn 37 w B T (.slice a0 xs.length cap) xs) (hg : goodT xs) :
    Calls Try.prog 71 #[.slice a0 xs.length cap, .agg #[.int .i64 c, .int .i64 d], .func (.func 50) #[] #[]] w
      fun e w' => e = .returned (.tuple #[.int .i64 (headC (c, d) xs : Nat), .bool (thereAt xs c d)]) ∧ Below w.heap.size w w' := by
  have hl := hg.1.2
  obtain ⟨a1, c1, g1, hv, ha1, hm, hx1, hy1⟩ := h.pairs.view
  simp only [Value.slice.injEq] at hv
  obtain ⟨rfl, _, rfl⟩ := hv
  have X := Lib.hid hx1
  have Y := Lib.hid hy1
  have HA := Lib.hid ha1
  have HG := Lib.hid hg
  clear h ha1 hx1 hy1 hm hg
  go_enter Try.func71, Try.ntmps71
  go_wp2
  go_loopw [9, 10] (fun i j wr => ∃ a b : Nat, a ≤ b ∧ b ≤ xs.length ∧ i = .int .i64 a ∧ j = .int .i64 b ∧ Hid (∀ k, k < a → lessC (xs.getD k (0, 0)) (c, d) = true) ∧ Hid (∀ k, b ≤ k → k < xs.length → lessC (xs.getD k (0, 0)) (c, d) = false) ∧ Below w.heap.size w wr ∧ wr.cell? ⟨w.heap.size, 0, none⟩ = some (.int .i64 c) ∧ wr.cell? ⟨w.heap.size, 1, none⟩ = some (.int .i64 d) ∧ w.heap.size < wr.heap.size) (fun i j _ => (intOf j).toNat - (intOf i).toNat)
  case atStart => exact ⟨0, xs.length, by omega, by omega, rfl, rfl, Lib.hid (fun k hk => by omega), Lib.hid (fun k h1 h2 => by omega), by go_grown, by go_simp, by go_simp, by simp⟩
  case round =>
    obtain ⟨a, b, hab, hbl, rfl, rfl, H1, H2, hB, p0, p1, hz⟩ := hrel
    by_cases hlt : a < b
    · obtain rfl := HA.out (by omega)
      obtain ⟨m, hm⟩ : ∃ m, m = (a + b) / 2 := ⟨_, rfl⟩
      have hmi : ((a : Int) + (b : Int)) / 2 = (m : Int) := by omega
      have hm1 : a ≤ m := by omega
      have hm2 : m < b := by omega
      obtain ⟨x, y, hxy⟩ : ∃ x y, xs.getD m (0, 0) = (x, y) := ⟨_, _, rfl⟩
      have cx : wr.cell? ⟨g1, m * 2, none⟩ = _ := (hB.cell (p := ⟨g1, m * 2, none⟩) (World.block_lt_of_cell? w _ (X.out m (by omega)))).trans (X.out m (by omega))
      have cy : wr.cell? ⟨g1, m * 2 + 1, none⟩ = _ := (hB.cell (p := ⟨g1, m * 2 + 1, none⟩) (World.block_lt_of_cell? w _ (Y.out m (by omega)))).trans (Y.out m (by omega))
      rw [hxy] at cx cy
      simp only at cx cy
      have hi0 : 0 ≤ (m : Int) := by omega
      have hi1 : (m : Int) < (xs.length : Int) := by omega
      cases hL : lessC (xs.getD m (0, 0)) (c, d) with
      | true =>
        have HN := Lib.hid (fun k (hk : k < m + 1) => less_down HG.out (c, d) k m (by omega) (by omega) hL)
        rw [hxy] at hL
        have HV := Lib.hid (cmp_of_less hL)
        clear hm hxy hL
        go_wp2
        go_region_held3 (fun w' => w'.cell? ⟨g1, m * 2, none⟩ = some (.int .i64 x) ∧ w'.cell? ⟨g1, m * 2 + 1, none⟩ = some (.int .i64 y) ∧ w'.cell? ⟨w.heap.size, 0, none⟩ = some (.int .i64 c) ∧ w'.cell? ⟨w.heap.size, 1, none⟩ = some (.int .i64 d)) (go_keep)
          (first | (go_at_call 50; (with_reducible refine (compareThreads_b x y c d _).mono ?_); rintro e w1 ⟨rfl, hb⟩; rw [HV.out]; (have d1 := cellB hb cx); (have d2 := cellB hb cy); (have d3 := cellB hb p0); (have d4 := cellB hb p1); (have hB2 : Below w.heap.size w w1 := by (refine Below.trans ?_ (hb.mono (by first | omega | (simp; omega))); go_grown)); (have hz2 : w.heap.size < w1.heap.size := by have := hb.size; (try simp at this); omega)))
        go_wp2
        go_roundw
        case rel => exact ⟨m + 1, b, by omega, by omega, by go_num, rfl, HN, H2, hB2, d3, d4, hz2⟩
        case measure => simp [intOf]; omega
      | false =>
        have HN := Lib.hid (fun k (h1 : m ≤ k) (h2 : k < xs.length) => notless_up HG.out (c, d) m k h1 h2 hL)
        rw [hxy] at hL
        rcases cmp_not_less hL with hv | hv
        · have HV := Lib.hid hv
          clear hm hxy hL hv
          go_wp2
          go_region_held3 (fun w' => w'.cell? ⟨g1, m * 2, none⟩ = some (.int .i64 x) ∧ w'.cell? ⟨g1, m * 2 + 1, none⟩ = some (.int .i64 y) ∧ w'.cell? ⟨w.heap.size, 0, none⟩ = some (.int .i64 c) ∧ w'.cell? ⟨w.heap.size, 1, none⟩ = some (.int .i64 d)) (go_keep)
            (first | (go_at_call 50; (with_reducible refine (compareThreads_b x y c d _).mono ?_); rintro e w1 ⟨rfl, hb⟩; rw [HV.out]; (have d1 := cellB hb cx); (have d2 := cellB hb cy); (have d3 := cellB hb p0); (have d4 := cellB hb p1); (have hB2 : Below w.heap.size w w1 := by (refine Below.trans ?_ (hb.mono (by first | omega | (simp; omega))); go_grown)); (have hz2 : w.heap.size < w1.heap.size := by have := hb.size; (try simp at this); omega)))
          go_wp2
          go_roundw
          case rel => exact ⟨a, m, by omega, by omega, rfl, rfl, H1, HN, hB2, d3, d4, hz2⟩
          case measure => simp [intOf]; omega
        · have HV := Lib.hid hv
          clear hm hxy hL hv
          go_wp2
          go_region_held3 (fun w' => w'.cell? ⟨g1, m * 2, none⟩ = some (.int .i64 x) ∧ w'.cell? ⟨g1, m * 2 + 1, none⟩ = some (.int .i64 y) ∧ w'.cell? ⟨w.heap.size, 0, none⟩ = some (.int .i64 c) ∧ w'.cell? ⟨w.heap.size, 1, none⟩ = some (.int .i64 d)) (go_keep)
            (first | (go_at_call 50; (with_reducible refine (compareThreads_b x y c d _).mono ?_); rintro e w1 ⟨rfl, hb⟩; rw [HV.out]; (have d1 := cellB hb cx); (have d2 := cellB hb cy); (have d3 := cellB hb p0); (have d4 := cellB hb p1); (have hB2 : Below w.heap.size w w1 := by (refine Below.trans ?_ (hb.mono (by first | omega | (simp; omega))); go_grown)); (have hz2 : w.heap.size < w1.heap.size := by have := hb.size; (try simp at this); omega)))
          go_wp2
          go_roundw
          case rel => exact ⟨a, m, by omega, by omega, rfl, rfl, H1, HN, hB2, d3, d4, hz2⟩
          case measure => simp [intOf]; omega
    · obtain rfl : a = b := by omega
      have hh : headC (c, d) xs = a := headC_unique (c, d) xs a hbl H1.out (fun h => H2.out a (Nat.le_refl _) h)
      have HT : thereAt xs c d = decide (a < xs.length ∧ xs.getD a (0, 0) = (c, d)) := by unfold thereAt; rw [hh]
      have HHH := Lib.hid hh
      have HTT := Lib.hid HT
      clear hh HT
      by_cases hal : a < xs.length
      · obtain rfl := HA.out (by omega)
        obtain ⟨x, y, hxy⟩ : ∃ x y, xs.getD a (0, 0) = (x, y) := ⟨_, _, rfl⟩
        have cx : wr.cell? ⟨g1, a * 2, none⟩ = _ := (hB.cell (p := ⟨g1, a * 2, none⟩) (World.block_lt_of_cell? w _ (X.out a (by omega)))).trans (X.out a (by omega))
        have cy : wr.cell? ⟨g1, a * 2 + 1, none⟩ = _ := (hB.cell (p := ⟨g1, a * 2 + 1, none⟩) (World.block_lt_of_cell? w _ (Y.out a (by omega)))).trans (Y.out a (by omega))
        rw [hxy] at cx cy
        simp only at cx cy
        have hi0 : 0 ≤ (a : Int) := by omega
        have hi1 : (a : Int) < (xs.length : Int) := by omega
        have hnl := H2.out a (Nat.le_refl _) hal
        rw [hxy] at hnl
        by_cases he : (x, y) = (c, d)
        · have HV := Lib.hid (show cmpC x y c d = 0 by have h1 := congrArg Prod.fst he; have h2 := congrArg Prod.snd he; simp only at h1 h2; subst h1; subst h2; simp [cmpC, cmpI])
          have HE := Lib.hid (show decide (a < xs.length ∧ xs.getD a (0, 0) = (c, d)) = true by rw [hxy, he]; simp [hal])
          clear hxy he hnl
          go_wp2
          go_region_held3 (fun w' => w'.cell? ⟨g1, a * 2, none⟩ = some (.int .i64 x) ∧ w'.cell? ⟨g1, a * 2 + 1, none⟩ = some (.int .i64 y) ∧ w'.cell? ⟨w.heap.size, 0, none⟩ = some (.int .i64 c) ∧ w'.cell? ⟨w.heap.size, 1, none⟩ = some (.int .i64 d)) (go_keep)
            (first | (go_at_call 50; (with_reducible refine (compareThreads_b x y c d _).mono ?_); rintro e w1 ⟨rfl, hb⟩; rw [HV.out]; (have d1 := cellB hb cx); (have d2 := cellB hb cy); (have d3 := cellB hb p0); (have d4 := cellB hb p1); (have hB2 : Below w.heap.size w w1 := by (refine Below.trans ?_ (hb.mono (by first | omega | (simp; omega))); go_grown)); (have hz2 : w.heap.size < w1.heap.size := by have := hb.size; (try simp at this); omega)))
          go_wp2
          go_ret2
          exact ⟨by rw [HHH.out, HTT.out, HE.out]; first | rfl | done, by go_grown⟩
        · have HV := Lib.hid (show cmpC x y c d = 1 by
            rcases cmp_not_less hnl with h | h
            · exact absurd (by unfold cmpC cmpI at h; split at h <;> (try split at h) <;> (try split at h) <;> (try split at h) <;> first | omega | (rw [Prod.mk.injEq]; omega)) he
            · exact h)
          have HE := Lib.hid (show decide (a < xs.length ∧ xs.getD a (0, 0) = (c, d)) = false by rw [hxy]; simp [he])
          clear hxy he hnl
          go_wp2
          go_region_held3 (fun w' => w'.cell? ⟨g1, a * 2, none⟩ = some (.int .i64 x) ∧ w'.cell? ⟨g1, a * 2 + 1, none⟩ = some (.int .i64 y) ∧ w'.cell? ⟨w.heap.size, 0, none⟩ = some (.int .i64 c) ∧ w'.cell? ⟨w.heap.size, 1, none⟩ = some (.int .i64 d)) (go_keep)
            (first | (go_at_call 50; (with_reducible refine (compareThreads_b x y c d _).mono ?_); rintro e w1 ⟨rfl, hb⟩; rw [HV.out]; (have d1 := cellB hb cx); (have d2 := cellB hb cy); (have d3 := cellB hb p0); (have d4 := cellB hb p1); (have hB2 : Below w.heap.size w w1 := by (refine Below.trans ?_ (hb.mono (by first | omega | (simp; omega))); go_grown)); (have hz2 : w.heap.size < w1.heap.size := by have := hb.size; (try simp at this); omega)))
          go_wp2
          go_ret2
          exact ⟨by rw [HHH.out, HTT.out, HE.out]; first | rfl | done, by go_grown⟩
      · have hnl : decide (a < xs.length) = false := by simp; omega
        have HE := Lib.hid (show decide (a < xs.length ∧ xs.getD a (0, 0) = (c, d)) = false by simp; omega)
        go_wp2
        refine wp_region_held_drew (S := fun w' => Below wr.heap.size wr w') (by kernel_rfl) (by (try dsimp only); go_grown) (fun hHeld => ?_)
        refine wpAnyH_take (i := 0) (v := ?v58) rfl (by kernel_rfl) (by kernel_rfl) (by kernel_rfl) (fun _ _ _ h => h) (Or.inl ⟨by rfl, ?hy58⟩) (by assumption) ?rest58
        case hy58 => (intro w hSw; (try dsimp only at hSw); go_simp; (try with_reducible rfl))
        simp only [Act.put, List.getElem_toArray, List.getElem_cons_zero, List.setIfInBounds_toArray, List.set_cons_zero, List.set_cons_succ]
        refine wpAnyH_take (i := 1) (v := ?v59) rfl (by kernel_rfl) (by kernel_rfl) (by kernel_rfl) (fun _ _ _ h => h) (Or.inl ⟨by rfl, ?hy59⟩) (by assumption) ?rest59
        case hy59 => (intro w hSw; (try dsimp only at hSw); go_simp; (try with_reducible rfl))
        simp only [Act.put, List.getElem_toArray, List.getElem_cons_zero, List.getElem_cons_succ, List.setIfInBounds_toArray, List.set_cons_zero, List.set_cons_succ]
        refine wpAnyH_take (i := 2) (v := ?v60) rfl (by kernel_rfl) (by kernel_rfl) (by kernel_rfl) (fun _ _ _ h => h) (Or.inl ⟨by rfl, ?hy60⟩) (by assumption) ?rest60
        case hy60 => (intro w hSw; (try dsimp only at hSw); go_simp; (try with_reducible rfl))
        simp only [Act.put, List.getElem_toArray, List.getElem_cons_zero, List.getElem_cons_succ, List.setIfInBounds_toArray, List.set_cons_zero, List.set_cons_succ]
        refine wpAnyH_take (i := 3) (v := ?v61) rfl (by kernel_rfl) (by kernel_rfl) (by kernel_rfl) (fun _ _ _ h => h) (Or.inl ⟨by rfl, ?hy61⟩) (by assumption) ?rest61
        case hy61 => (intro w hSw; (try dsimp only at hSw); go_simp; (try with_reducible rfl))
        simp only [Act.put, List.getElem_toArray, List.getElem_cons_zero, List.getElem_cons_succ, List.setIfInBounds_toArray, List.set_cons_zero, List.set_cons_succ]
        refine wpAnyH_take (i := 4) (v := ?v62) rfl (by kernel_rfl) (by kernel_rfl) (by kernel_rfl) (fun _ _ _ h => h) (Or.inl ⟨by rfl, ?hy62⟩) (by assumption) ?rest62
        case hy62 => (intro w hSw; (try dsimp only at hSw); go_simp; (try with_reducible rfl))
        simp only [Act.put, List.getElem_toArray, List.getElem_cons_zero, List.getElem_cons_succ, List.setIfInBounds_toArray, List.set_cons_zero, List.set_cons_succ]
        refine wpAnyH_take (i := 5) (v := undef) rfl (by kernel_rfl) (by kernel_rfl) (by kernel_rfl) (fun _ _ _ h => h) (Or.inr ⟨by rfl, rfl⟩) (by assumption) ?_
        simp only [Act.put, List.getElem_toArray, List.getElem_cons_zero, List.getElem_cons_succ, List.setIfInBounds_toArray, List.set_cons_zero, List.set_cons_succ]
        refine wpAnyH_take (i := 6) (v := undef) rfl (by kernel_rfl) (by kernel_rfl) (by kernel_rfl) (fun _ _ _ h => h) (Or.inr ⟨by rfl, rfl⟩) (by assumption) ?_
        simp only [Act.put, List.getElem_toArray, List.getElem_cons_zero, List.getElem_cons_succ, List.setIfInBounds_toArray, List.set_cons_zero, List.set_cons_succ]
        refine wpAnyH_take (i := 7) (v := undef) rfl (by kernel_rfl) (by kernel_rfl) (by kernel_rfl) (fun _ _ _ h => h) (Or.inr ⟨by rfl, rfl⟩) (by assumption) ?_
        simp only [Act.put, List.getElem_toArray, List.getElem_cons_zero, List.getElem_cons_succ, List.setIfInBounds_toArray, List.set_cons_zero, List.set_cons_succ]
        refine wpAnyH_take (i := 8) (v := undef) rfl (by kernel_rfl) (by kernel_rfl) (by kernel_rfl) (fun _ _ _ h => h) (Or.inr ⟨by rfl, rfl⟩) (by assumption) ?_
        simp only [Act.put, List.getElem_toArray, List.getElem_cons_zero, List.getElem_cons_succ, List.setIfInBounds_toArray, List.set_cons_zero, List.set_cons_succ]
        refine wpAnyH_take (i := 9) (v := undef) rfl (by kernel_rfl) (by kernel_rfl) (by kernel_rfl) (fun _ _ _ h => h) (Or.inr ⟨by rfl, rfl⟩) (by assumption) ?_
        simp only [Act.put, List.getElem_toArray, List.getElem_cons_zero, List.getElem_cons_succ, List.setIfInBounds_toArray, List.set_cons_zero, List.set_cons_succ]
        refine wpAnyH_take (i := 10) (v := undef) rfl (by kernel_rfl) (by kernel_rfl) (by kernel_rfl) (fun _ _ _ h => h) (Or.inr ⟨by rfl, rfl⟩) (by assumption) ?_
        simp only [Act.put, List.getElem_toArray, List.getElem_cons_zero, List.getElem_cons_succ, List.setIfInBounds_toArray, List.set_cons_zero, List.set_cons_succ]
        refine wpAnyH_take (i := 11) (v := undef) rfl (by kernel_rfl) (by kernel_rfl) (by kernel_rfl) (fun _ _ _ h => h) (Or.inr ⟨by rfl, rfl⟩) (by assumption) ?_
        simp only [Act.put, List.getElem_toArray, List.getElem_cons_zero, List.getElem_cons_succ, List.setIfInBounds_toArray, List.set_cons_zero, List.set_cons_succ]
        refine wpAnyH_take (i := 12) (v := undef) rfl (by kernel_rfl) (by kernel_rfl) (by kernel_rfl) (fun _ _ _ h => h) (Or.inr ⟨by rfl, rfl⟩) (by assumption) ?_
        simp only [Act.put, List.getElem_toArray, List.getElem_cons_zero, List.getElem_cons_succ, List.setIfInBounds_toArray, List.set_cons_zero, List.set_cons_succ]
        refine wpAnyH_take (i := 13) (v := ?v63) rfl (by kernel_rfl) (by kernel_rfl) (by kernel_rfl) (fun _ _ _ h => h) (Or.inl ⟨by rfl, ?hy63⟩) (by assumption) ?rest63
        case hy63 => (intro w hSw; (try dsimp only at hSw); go_simp; (try with_reducible rfl))
        simp only [Act.put, List.getElem_toArray, List.getElem_cons_zero, List.getElem_cons_succ, List.setIfInBounds_toArray, List.set_cons_zero, List.set_cons_succ]
        refine wpAnyH_take (i := 14) (v := ?v64) rfl (by kernel_rfl) (by kernel_rfl) (by kernel_rfl) (fun _ _ _ h => h) (Or.inl ⟨by rfl, ?hy64⟩) (by assumption) ?rest64
        case hy64 => (intro w hSw; (try dsimp only at hSw); go_simp; (try with_reducible rfl))
        simp only [Act.put, List.getElem_toArray, List.getElem_cons_zero, List.getElem_cons_succ, List.setIfInBounds_toArray, List.set_cons_zero, List.set_cons_succ]
        refine wpAnyH_take (i := 15) (v := ?v65) rfl (by kernel_rfl) (by kernel_rfl) (by kernel_rfl) (fun _ _ _ h => h) (Or.inl ⟨by rfl, ?hy65⟩) (by assumption) ?rest65
        case hy65 => (intro w hSw; (try dsimp only at hSw); go_simp; (try with_reducible rfl))
        simp only [Act.put, List.getElem_toArray, List.getElem_cons_zero, List.getElem_cons_succ, List.setIfInBounds_toArray, List.set_cons_zero, List.set_cons_succ]
        refine wpAnyH_done (by kernel_rfl) ?_ _
        go_wp2
        go_ret2
        exact ⟨by rw [HHH.out, HTT.out, HE.out]; first | rfl | done, by go_grown⟩

set_option maxHeartbeats 1000000 in
theorem iAddThread_there (u : Value) (xs : List (Int × Int)) (c d : Int) (B T : Nat) (w : World) (h : PairsIn 37 w B T u xs) (hT : T ≤ w.heap.size) (hg : goodT xs) (hc : isT c d) (hl : xs.length < 30) (ht : thereAt xs c d = true) :
    Calls Try.prog 45 #[u, .agg #[.int .i64 c, .int .i64 d]] w (Gives (PairsIn 37) w [] false) := by
  have HH := Lib.hid h
  have HG := Lib.hid hg
  obtain ⟨a0, cap, hv⟩ := h.1.src.form
  subst hv
  have hne : ((xs.length : Int) == 30) = false := beq_eq_false_iff_ne.2 (by omega)
  have HC := Lib.hid hc
  have HTH := Lib.hid ht
  clear h hg hc ht
  go_enter Try.func45, Try.ntmps45
  go_wp2_with (first | (go_at_call 18; (with_reducible refine (AreThreads_yes _ xs B T _ (HH.out.keep (belowSame (by go_grown) hT)) HG.out).mono ?_); rintro e w1 ⟨rfl, hb1⟩; (have d0 := cellB hb1 (b := w.heap.size) (o := 0) (x := .int .i64 c) (by go_simp)); (have d1 := cellB hb1 (b := w.heap.size) (o := 1) (x := .int .i64 d) (by go_simp)); (have hB1 : Below w.heap.size w w1 := Below.trans (by go_grown) (hb1.mono (by simp))); have hz1 := hb1.size) | (go_at_call 49; (with_reducible refine (isThread_yes c d _ HC.out).mono ?_); rintro e w2 ⟨rfl, hb2⟩; (have e0 := cellB hb2 d0); (have e1 := cellB hb2 d1); (have hB2 : Below w.heap.size w w2 := hB1.trans (hb2.mono (by simp at hz1; omega))); have hz2 := hb2.size) | (go_at_call 71; (with_reducible refine (bsearch_any _ _ xs c d B T _ (HH.out.keep (belowSame hB2 hT)) HG.out).mono ?_); rintro e w3 ⟨rfl, hb3⟩; rw [HTH.out]; (have f0 := cellB hb3 e0); (have f1 := cellB hb3 e1); (have hB3 : Below w.heap.size w w3 := hB2.trans (hb3.mono (by simp at hz1; omega))); have hz3 := hb3.size))
  go_ret2
  exact ⟨_, rfl, PairsIn.nil _ _ _ _, hB3⟩

end Go.Proofs.Ytngonpiiehmlaaa
