/- SureStar. -/
import Derived.Test.YtpliaenpencocaaDoorXG
namespace Go.Proofs.YtpliaenpencocaaDoor
open Go.RowKit
set_option linter.unusedVariables false

/-- The number of all, or 0. -/
def sureN (f : Int × Int → Int) (n : Int) (xs : List (Int × Int)) : Int := if xs.all (fun y => f y == n) then n else 0
theorem sureN_nil (f : Int × Int → Int) (n : Int) : sureN f n [] = n := rfl
theorem all_step {α : Type} (q : α → Bool) (xs : List α) (d : α) (k : Nat) (hk : k < xs.length) : (xs.take (k + 1)).all q = ((xs.take k).all q && q (xs.getD k d)) := by
  rw [List.take_add_one, List.all_append]
  simp [List.getElem?_eq_getElem hk, List.getD_eq_getElem?_getD]
theorem sureN_yes {f : Int × Int → Int} {n : Int} {xs : List (Int × Int)} {k : Nat} (hk : k < xs.length) (h : f (xs.getD k (0, 0)) = sureN f n (xs.take k)) : sureN f n (xs.take (k + 1)) = sureN f n (xs.take k) := by
  unfold sureN at h ⊢
  rw [all_step _ xs (0, 0) k hk]
  cases ha : (xs.take k).all (fun y => f y == n) with
  | false => simp
  | true =>
    rw [ha] at h
    simp only [if_true] at h
    have h2 : (f (xs.getD k (0, 0)) == n) = true := by rw [beq_iff_eq]; exact h
    simp only [Bool.true_and, h2]
theorem sureN_no {f : Int × Int → Int} {n : Int} {xs : List (Int × Int)} {k : Nat} (hk : k < xs.length) (h : ¬ f (xs.getD k (0, 0)) = sureN f n (xs.take k)) : sureN f n (xs.take (k + 1)) = 0 := by
  unfold sureN at h ⊢
  rw [all_step _ xs (0, 0) k hk]
  cases ha : (xs.take k).all (fun y => f y == n) with
  | false => simp
  | true =>
    rw [ha] at h
    simp only [if_true] at h
    have h2 : (f (xs.getD k (0, 0)) == n) = false := by rw [beq_eq_false_iff_ne]; exact h
    simp only [Bool.true_and, h2]
    rfl
theorem bne_dec (x n : Int) : (x != n) = decide (¬ x = n) := by by_cases h : x = n <;> simp [h]

set_option maxHeartbeats 400000 in
theorem sure1_tell (x y : Int) (w : World) : Calls Tryd.prog 70 #[.agg #[.int .i64 x, .int .i64 y]] w fun e w' => e = .returned (.int .i64 x) ∧ Below w.heap.size w w' := by
  go_enter Tryd.func70, Tryd.ntmps70
  go_wp2
  go_ret
  exact ⟨rfl, by go_grown⟩

set_option maxHeartbeats 400000 in
theorem sure1_fn (x y n : Int) (gb gn : Nat) (t : Bool) (w : World) (hb : w.cell? ⟨gb, 0, none⟩ = some (.func (.func 70) #[] #[])) (hn : w.cell? ⟨gn, 0, none⟩ = some (.int .i64 n)) (ht : decide (¬ x = n) = t) :
    Calls Tryd.prog 92 #[.agg #[.int .i64 x, .int .i64 y], .pointer (some ⟨gb, 0, none⟩), .pointer (some ⟨gn, 0, none⟩)] w fun e w' => e = .returned (.bool t) ∧ Below w.heap.size w w' := by
  have p0 := cellB (w' := w.alloc (.cells #[.int .i64 x, .int .i64 y] 43)) (by go_grown) hb
  have p1 := cellB (w' := w.alloc (.cells #[.int .i64 x, .int .i64 y] 43)) (by go_grown) hn
  have HT := Lib.hid ht
  clear ht
  go_enter Tryd.func92, Tryd.ntmps92
  go_wp2
  go_region_held3 (fun w' => w'.cell? ⟨gb, 0, none⟩ = some (.func (.func 70) #[] #[]) ∧ w'.cell? ⟨gn, 0, none⟩ = some (.int .i64 n) ∧ w'.cell? ⟨w.heap.size, 0, none⟩ = some (.int .i64 x) ∧ w'.cell? ⟨w.heap.size, 1, none⟩ = some (.int .i64 y)) (go_keep)
    (first | (go_at_call 70; (refine (sure1_tell x y _).mono ?_); rintro e w1 ⟨rfl, hb1⟩; (have q0 := cellB hb1 p0); (have q1 := cellB hb1 p1); (have q2 : w1.cell? ⟨w.heap.size, 0, none⟩ = some (.int .i64 x) := cellB hb1 (by go_simp)); (have q3 : w1.cell? ⟨w.heap.size, 1, none⟩ = some (.int .i64 y) := cellB hb1 (by go_simp)); (have hB1 : Below w.heap.size w w1 := Below.trans (by go_grown) (hb1.mono (by first | omega | (simp; done) | (simp; omega))))))
  go_wp2
  go_ret
  refine ⟨?_, hB1⟩
  rw [← HT.out]
  exact congrArg (fun b => Ending.returned (Value.bool b)) (bne_dec _ _)

set_option maxHeartbeats 1000000 in
theorem sure1_idx (v : Value) (xs : List (Int × Int)) (n : Int) (gb gn B T : Nat) (w : World) (hx : PairsIn 43 w B T v xs) (hb : w.cell? ⟨gb, 0, none⟩ = some (.func (.func 70) #[] #[])) (hn : w.cell? ⟨gn, 0, none⟩ = some (.int .i64 n)) :
    Calls Tryd.prog 107 #[v, .func (.func 92) #[] #[.pointer (some ⟨gb, 0, none⟩), .pointer (some ⟨gn, 0, none⟩)]] w fun e w' => ∃ r : Int, e = .returned (.int .i64 r) ∧ decide (0 ≤ r) = (!xs.all (fun z => Prod.fst z == n)) ∧ Below w.heap.size w w' := by
  obtain ⟨a1, c1, g1, rfl, ha1, hm1, hx1, hy1⟩ := hx.pairs.view
  unfold maxLen at hm1
  have X := Lib.hid hx1
  have Y := Lib.hid hy1
  have HA := Lib.hid ha1
  have H0 := Lib.hid hb
  have H1 := Lib.hid hn
  clear hx1 hy1 hx ha1 hb hn
  go_enter Tryd.func107, Tryd.ntmps107
  go_wp2
  go_loopw [8] (fun i wr => ∃ k : Nat, k ≤ xs.length ∧ i = .int .i64 k ∧ Hid ((xs.take k).all (fun z => Prod.fst z == n) = true) ∧ Below w.heap.size w wr) (fun i _ => xs.length - (intOf i).toNat)
  case atStart => exact ⟨0, by omega, rfl, Lib.hid (by simp), Below.refl _ _⟩
  case round =>
    obtain ⟨k, hk, rfl, HO, hB⟩ := hrel
    have hz := hB.size
    by_cases hlt : k < xs.length
    · obtain rfl := HA.out (by omega)
      have cx := cellB hB (X.out k hlt)
      have cy := cellB hB (Y.out k hlt)
      have G0 := Lib.hid (cellB hB H0.out)
      have G1 := Lib.hid (cellB hB H1.out)
      have hst := all_step (fun z => Prod.fst z == n) xs (0, 0) k hlt
      obtain ⟨x, y, hxy⟩ : ∃ x y, xs.getD k (0, 0) = (x, y) := ⟨_, _, rfl⟩
      rw [hxy] at cx cy hst
      rw [HO.out, Bool.true_and] at hst
      simp only at cx cy hst
      have i1 : 0 ≤ (k : Int) := by omega
      have i2 : (k : Int) < (xs.length : Int) := by omega
      clear hxy
      by_cases hf : x = n
      · have HST := Lib.hid (show (xs.take (k + 1)).all (fun z => Prod.fst z == n) = true from hst.trans (by simp [hf]))
        have HF := Lib.hid (show decide (¬ x = n) = false by simp [hf])
        clear hst hf
        go_wp2_with (first | (go_at_call 92; (refine (sure1_fn x y n gb gn false _ G0.out G1.out HF.out).mono ?_); rintro e w1 ⟨rfl, hb1⟩; have hB1 := hB.trans (hb1.mono hz)))
        go_roundw
        case rel => exact ⟨k + 1, by omega, by go_num, Lib.hid HST.out, hB1⟩
        case measure => simp [intOf]; omega
      · have hall : xs.all (fun z => Prod.fst z == n) = false := by
          have h2 : (xs.take (k + 1)).all (fun z => Prod.fst z == n) = false := hst.trans (by simp [hf])
          rw [List.all_eq_false] at h2 ⊢
          obtain ⟨c, hc, hn⟩ := h2
          exact ⟨c, List.mem_of_mem_take hc, hn⟩
        have HALL := Lib.hid hall
        have HF := Lib.hid (show decide (¬ x = n) = true by simp [hf])
        clear hst hf hall
        go_wp2_with (first | (go_at_call 92; (refine (sure1_fn x y n gb gn true _ G0.out G1.out HF.out).mono ?_); rintro e w1 ⟨rfl, hb1⟩; have hB1 := hB.trans (hb1.mono hz)))
        go_ret
        refine ⟨(k : Int), rfl, ?_, hB1⟩
        rw [HALL.out, decide_eq_true (show (0 : Int) ≤ (k : Int) by omega)]
        rfl
    · obtain rfl : k = xs.length := by omega
      have hall := HO.out
      rw [List.take_length] at hall
      have HALL := Lib.hid hall
      clear hall
      go_wp2
      go_ret
      exact ⟨-1, rfl, by rw [HALL.out]; rfl, hB⟩

set_option maxHeartbeats 400000 in
theorem sure1_con (v : Value) (xs : List (Int × Int)) (n : Int) (gb gn B T : Nat) (t : Bool) (w : World) (hx : PairsIn 43 w B T v xs) (hb : w.cell? ⟨gb, 0, none⟩ = some (.func (.func 70) #[] #[])) (hn : w.cell? ⟨gn, 0, none⟩ = some (.int .i64 n)) (ht : (!xs.all (fun z => Prod.fst z == n)) = t) :
    Calls Tryd.prog 91 #[v, .func (.func 92) #[] #[.pointer (some ⟨gb, 0, none⟩), .pointer (some ⟨gn, 0, none⟩)]] w fun e w' => e = .returned (.bool t) ∧ Below w.heap.size w w' := by
  have HI := Lib.hid (sure1_idx v xs n gb gn B T w hx hb hn)
  have HT := Lib.hid ht
  obtain ⟨a1, c1, g1, rfl, _⟩ := hx.pairs.view
  clear hx ht hb hn
  go_enter Tryd.func91, Tryd.ntmps91
  go_wp2_with (first | (go_at_call 107; (refine (HI.out).mono ?_); rintro e w1 ⟨r, rfl, hr, hb1⟩; rw [HT.out] at hr; (have HR := Lib.hid hr); clear hr))
  go_ret
  exact ⟨by rw [← HR.out]; rfl, hb1⟩

set_option maxHeartbeats 1000000 in
theorem sure1_any (v : Value) (xs : List (Int × Int)) (x y : Int) (r : List (Int × Int)) (B T : Nat) (t : Bool) (w : World) (hx : PairsIn 43 w B T v xs) (hT : T ≤ w.heap.size) (hxs : xs = (x, y) :: r) (ht : (!xs.all (fun z => Prod.fst z == x)) = t) :
    Calls Tryd.prog 69 #[v, .func (.func 70) #[] #[]] w fun e w' => e = .returned (.int .i64 (if t then 0 else x)) ∧ Below w.heap.size w w' := by
  have HX := Lib.hid hx
  have HT := Lib.hid ht
  obtain ⟨a1, c1, g1, rfl, ha1, _, hx1, hy1⟩ := hx.pairs.view
  have hlen : 0 < xs.length := by rw [hxs]; simp
  obtain rfl := ha1 hlen
  have p0 := hx1 0 hlen
  have p1 := hy1 0 hlen
  rw [hxs] at p0 p1
  simp only [List.getD_cons_zero, Nat.zero_mul, Nat.zero_add] at p0 p1
  have l0 : (0 : Int) < (xs.length : Int) := by omega
  have hg1 : g1 < w.heap.size := World.block_lt_of_cell? w _ p0
  have hg2 : ¬ g1 = w.heap.size + 1 := by omega
  have hg3 : ¬ w.heap.size + 1 = g1 := by omega
  clear hx1 hy1 ha1 hx ht hxs
  have r0 := cellB (w' := w.alloc (.cells #[.func (.func 70) #[] #[]] 82)) (by go_grown) p0
  have r1 := cellB (w' := w.alloc (.cells #[.func (.func 70) #[] #[]] 82)) (by go_grown) p1
  go_enter Tryd.func69, Tryd.ntmps69
  go_wp2
  go_region_held3 (fun w' => w'.cell? ⟨w.heap.size, 0, none⟩ = some (.func (.func 70) #[] #[]) ∧ w'.cell? ⟨g1, 0, none⟩ = some (.int .i64 x) ∧ w'.cell? ⟨g1, 1, none⟩ = some (.int .i64 y)) (go_keep)
    (first
      | (go_at_call 70; (with_reducible refine (sure1_tell x y (w.alloc (.cells #[.func (.func 70) #[] #[]] 82)).drew).mono ?_); rintro e w1 ⟨rfl, hb1⟩; (have q0 : w1.cell? ⟨g1, 0, none⟩ = some (.int .i64 x) := cellB hb1 (r0)); (have q1 : w1.cell? ⟨g1, 1, none⟩ = some (.int .i64 y) := cellB hb1 (r1)); (have q2 : w1.cell? ⟨w.heap.size, 0, none⟩ = some (.func (.func 70) #[] #[]) := cellB hb1 (by go_simp)); (have hB1 : Below w.heap.size w w1 := Below.trans (by go_grown) (hb1.mono (by first | omega | (simp; done) | (simp; omega)))); (have z1 : w.heap.size < w1.heap.size := by have := hb1.size; simp at this; omega); (have z2 : ¬ w1.heap.size = g1 := by omega); (have z3 : ¬ g1 = w1.heap.size := by omega))
      | (go_at_call 70; (with_reducible refine (sure1_tell x y ((w.alloc (.cells #[.func (.func 70) #[] #[]] 82)).alloc (.cells #[.int .i64 0] 3)).drew).mono ?_); rintro e w1 ⟨rfl, hb1⟩; (have q0 : w1.cell? ⟨g1, 0, none⟩ = some (.int .i64 x) := cellB hb1 (cellB (by go_grown) r0)); (have q1 : w1.cell? ⟨g1, 1, none⟩ = some (.int .i64 y) := cellB hb1 (cellB (by go_grown) r1)); (have q2 : w1.cell? ⟨w.heap.size, 0, none⟩ = some (.func (.func 70) #[] #[]) := cellB hb1 (by go_simp)); (have q4 : w1.cell? ⟨w.heap.size + 1, 0, none⟩ = some (.int .i64 0) := cellB hb1 (by go_simp)); (have q5 : w1.frozen? ⟨w.heap.size + 1, 0, none⟩ = false := frozenB hb1 (by simp) (by go_simp)); (have hB1 : Below w.heap.size w w1 := Below.trans (by go_grown) (hb1.mono (by first | omega | (simp; done) | (simp; omega)))); (have z1 : w.heap.size < w1.heap.size := by have := hb1.size; simp at this; omega); (have z2 : ¬ w1.heap.size = g1 := by omega); (have z3 : ¬ g1 = w1.heap.size := by omega)))
  all_goals go_wp2_with (first
    | (go_at_call 91; (with_reducible refine (sure1_con _ xs x w.heap.size w1.heap.size _ _ t _ (HX.out.keep (belowSame (Below.trans hB1 (by go_grown)) hT)) (by go_simp) (by go_simp) HT.out).mono ?_); rintro e w2 ⟨rfl, hb2⟩; (have hB2 : Below w.heap.size w w2 := hB1.trans (Below.trans (by go_grown) (hb2.mono (by first | omega | (simp; done) | (simp; omega))))); (have n2 : w2.cell? ⟨w1.heap.size, 0, none⟩ = some (.int .i64 x) := cellB hb2 (by go_simp)))
    | (go_at_call 91; (with_reducible refine (sure1_con _ xs x w.heap.size (w.heap.size + 1) _ _ t _ (HX.out.keep (belowSame (Below.trans hB1 (by go_grown)) hT)) (by go_simp) (by go_simp) HT.out).mono ?_); rintro e w2 ⟨rfl, hb2⟩; (have hB2 : Below w.heap.size w w2 := hB1.trans (Below.trans (by go_grown) (hb2.mono (by first | omega | (simp; done) | (simp; omega))))); (have n2 : w2.cell? ⟨(w.heap.size + 1), 0, none⟩ = some (.int .i64 x) := cellB hb2 (by go_simp))))
  all_goals (cases t <;> (go_wp2; go_ret; exact ⟨rfl, hB2⟩))

set_option maxHeartbeats 400000 in
theorem sure2_tell (x y : Int) (w : World) : Calls Tryd.prog 71 #[.agg #[.int .i64 x, .int .i64 y]] w fun e w' => e = .returned (.int .i64 y) ∧ Below w.heap.size w w' := by
  go_enter Tryd.func71, Tryd.ntmps71
  go_wp2
  go_ret
  exact ⟨rfl, by go_grown⟩

set_option maxHeartbeats 400000 in
theorem sure2_fn (x y n : Int) (gb gn : Nat) (t : Bool) (w : World) (hb : w.cell? ⟨gb, 0, none⟩ = some (.func (.func 71) #[] #[])) (hn : w.cell? ⟨gn, 0, none⟩ = some (.int .i64 n)) (ht : decide (¬ y = n) = t) :
    Calls Tryd.prog 92 #[.agg #[.int .i64 x, .int .i64 y], .pointer (some ⟨gb, 0, none⟩), .pointer (some ⟨gn, 0, none⟩)] w fun e w' => e = .returned (.bool t) ∧ Below w.heap.size w w' := by
  have p0 := cellB (w' := w.alloc (.cells #[.int .i64 x, .int .i64 y] 43)) (by go_grown) hb
  have p1 := cellB (w' := w.alloc (.cells #[.int .i64 x, .int .i64 y] 43)) (by go_grown) hn
  have HT := Lib.hid ht
  clear ht
  go_enter Tryd.func92, Tryd.ntmps92
  go_wp2
  go_region_held3 (fun w' => w'.cell? ⟨gb, 0, none⟩ = some (.func (.func 71) #[] #[]) ∧ w'.cell? ⟨gn, 0, none⟩ = some (.int .i64 n) ∧ w'.cell? ⟨w.heap.size, 0, none⟩ = some (.int .i64 x) ∧ w'.cell? ⟨w.heap.size, 1, none⟩ = some (.int .i64 y)) (go_keep)
    (first | (go_at_call 71; (refine (sure2_tell x y _).mono ?_); rintro e w1 ⟨rfl, hb1⟩; (have q0 := cellB hb1 p0); (have q1 := cellB hb1 p1); (have q2 : w1.cell? ⟨w.heap.size, 0, none⟩ = some (.int .i64 x) := cellB hb1 (by go_simp)); (have q3 : w1.cell? ⟨w.heap.size, 1, none⟩ = some (.int .i64 y) := cellB hb1 (by go_simp)); (have hB1 : Below w.heap.size w w1 := Below.trans (by go_grown) (hb1.mono (by first | omega | (simp; done) | (simp; omega))))))
  go_wp2
  go_ret
  refine ⟨?_, hB1⟩
  rw [← HT.out]
  exact congrArg (fun b => Ending.returned (Value.bool b)) (bne_dec _ _)

set_option maxHeartbeats 1000000 in
theorem sure2_idx (v : Value) (xs : List (Int × Int)) (n : Int) (gb gn B T : Nat) (w : World) (hx : PairsIn 43 w B T v xs) (hb : w.cell? ⟨gb, 0, none⟩ = some (.func (.func 71) #[] #[])) (hn : w.cell? ⟨gn, 0, none⟩ = some (.int .i64 n)) :
    Calls Tryd.prog 107 #[v, .func (.func 92) #[] #[.pointer (some ⟨gb, 0, none⟩), .pointer (some ⟨gn, 0, none⟩)]] w fun e w' => ∃ r : Int, e = .returned (.int .i64 r) ∧ decide (0 ≤ r) = (!xs.all (fun z => Prod.snd z == n)) ∧ Below w.heap.size w w' := by
  obtain ⟨a1, c1, g1, rfl, ha1, hm1, hx1, hy1⟩ := hx.pairs.view
  unfold maxLen at hm1
  have X := Lib.hid hx1
  have Y := Lib.hid hy1
  have HA := Lib.hid ha1
  have H0 := Lib.hid hb
  have H1 := Lib.hid hn
  clear hx1 hy1 hx ha1 hb hn
  go_enter Tryd.func107, Tryd.ntmps107
  go_wp2
  go_loopw [8] (fun i wr => ∃ k : Nat, k ≤ xs.length ∧ i = .int .i64 k ∧ Hid ((xs.take k).all (fun z => Prod.snd z == n) = true) ∧ Below w.heap.size w wr) (fun i _ => xs.length - (intOf i).toNat)
  case atStart => exact ⟨0, by omega, rfl, Lib.hid (by simp), Below.refl _ _⟩
  case round =>
    obtain ⟨k, hk, rfl, HO, hB⟩ := hrel
    have hz := hB.size
    by_cases hlt : k < xs.length
    · obtain rfl := HA.out (by omega)
      have cx := cellB hB (X.out k hlt)
      have cy := cellB hB (Y.out k hlt)
      have G0 := Lib.hid (cellB hB H0.out)
      have G1 := Lib.hid (cellB hB H1.out)
      have hst := all_step (fun z => Prod.snd z == n) xs (0, 0) k hlt
      obtain ⟨x, y, hxy⟩ : ∃ x y, xs.getD k (0, 0) = (x, y) := ⟨_, _, rfl⟩
      rw [hxy] at cx cy hst
      rw [HO.out, Bool.true_and] at hst
      simp only at cx cy hst
      have i1 : 0 ≤ (k : Int) := by omega
      have i2 : (k : Int) < (xs.length : Int) := by omega
      clear hxy
      by_cases hf : y = n
      · have HST := Lib.hid (show (xs.take (k + 1)).all (fun z => Prod.snd z == n) = true from hst.trans (by simp [hf]))
        have HF := Lib.hid (show decide (¬ y = n) = false by simp [hf])
        clear hst hf
        go_wp2_with (first | (go_at_call 92; (refine (sure2_fn x y n gb gn false _ G0.out G1.out HF.out).mono ?_); rintro e w1 ⟨rfl, hb1⟩; have hB1 := hB.trans (hb1.mono hz)))
        go_roundw
        case rel => exact ⟨k + 1, by omega, by go_num, Lib.hid HST.out, hB1⟩
        case measure => simp [intOf]; omega
      · have hall : xs.all (fun z => Prod.snd z == n) = false := by
          have h2 : (xs.take (k + 1)).all (fun z => Prod.snd z == n) = false := hst.trans (by simp [hf])
          rw [List.all_eq_false] at h2 ⊢
          obtain ⟨c, hc, hn⟩ := h2
          exact ⟨c, List.mem_of_mem_take hc, hn⟩
        have HALL := Lib.hid hall
        have HF := Lib.hid (show decide (¬ y = n) = true by simp [hf])
        clear hst hf hall
        go_wp2_with (first | (go_at_call 92; (refine (sure2_fn x y n gb gn true _ G0.out G1.out HF.out).mono ?_); rintro e w1 ⟨rfl, hb1⟩; have hB1 := hB.trans (hb1.mono hz)))
        go_ret
        refine ⟨(k : Int), rfl, ?_, hB1⟩
        rw [HALL.out, decide_eq_true (show (0 : Int) ≤ (k : Int) by omega)]
        rfl
    · obtain rfl : k = xs.length := by omega
      have hall := HO.out
      rw [List.take_length] at hall
      have HALL := Lib.hid hall
      clear hall
      go_wp2
      go_ret
      exact ⟨-1, rfl, by rw [HALL.out]; rfl, hB⟩

set_option maxHeartbeats 400000 in
theorem sure2_con (v : Value) (xs : List (Int × Int)) (n : Int) (gb gn B T : Nat) (t : Bool) (w : World) (hx : PairsIn 43 w B T v xs) (hb : w.cell? ⟨gb, 0, none⟩ = some (.func (.func 71) #[] #[])) (hn : w.cell? ⟨gn, 0, none⟩ = some (.int .i64 n)) (ht : (!xs.all (fun z => Prod.snd z == n)) = t) :
    Calls Tryd.prog 91 #[v, .func (.func 92) #[] #[.pointer (some ⟨gb, 0, none⟩), .pointer (some ⟨gn, 0, none⟩)]] w fun e w' => e = .returned (.bool t) ∧ Below w.heap.size w w' := by
  have HI := Lib.hid (sure2_idx v xs n gb gn B T w hx hb hn)
  have HT := Lib.hid ht
  obtain ⟨a1, c1, g1, rfl, _⟩ := hx.pairs.view
  clear hx ht hb hn
  go_enter Tryd.func91, Tryd.ntmps91
  go_wp2_with (first | (go_at_call 107; (refine (HI.out).mono ?_); rintro e w1 ⟨r, rfl, hr, hb1⟩; rw [HT.out] at hr; (have HR := Lib.hid hr); clear hr))
  go_ret
  exact ⟨by rw [← HR.out]; rfl, hb1⟩

set_option maxHeartbeats 1000000 in
theorem sure2_any (v : Value) (xs : List (Int × Int)) (x y : Int) (r : List (Int × Int)) (B T : Nat) (t : Bool) (w : World) (hx : PairsIn 43 w B T v xs) (hT : T ≤ w.heap.size) (hxs : xs = (x, y) :: r) (ht : (!xs.all (fun z => Prod.snd z == y)) = t) :
    Calls Tryd.prog 69 #[v, .func (.func 71) #[] #[]] w fun e w' => e = .returned (.int .i64 (if t then 0 else y)) ∧ Below w.heap.size w w' := by
  have HX := Lib.hid hx
  have HT := Lib.hid ht
  obtain ⟨a1, c1, g1, rfl, ha1, _, hx1, hy1⟩ := hx.pairs.view
  have hlen : 0 < xs.length := by rw [hxs]; simp
  obtain rfl := ha1 hlen
  have p0 := hx1 0 hlen
  have p1 := hy1 0 hlen
  rw [hxs] at p0 p1
  simp only [List.getD_cons_zero, Nat.zero_mul, Nat.zero_add] at p0 p1
  have l0 : (0 : Int) < (xs.length : Int) := by omega
  have hg1 : g1 < w.heap.size := World.block_lt_of_cell? w _ p0
  have hg2 : ¬ g1 = w.heap.size + 1 := by omega
  have hg3 : ¬ w.heap.size + 1 = g1 := by omega
  clear hx1 hy1 ha1 hx ht hxs
  have r0 := cellB (w' := w.alloc (.cells #[.func (.func 71) #[] #[]] 82)) (by go_grown) p0
  have r1 := cellB (w' := w.alloc (.cells #[.func (.func 71) #[] #[]] 82)) (by go_grown) p1
  go_enter Tryd.func69, Tryd.ntmps69
  go_wp2
  go_region_held3 (fun w' => w'.cell? ⟨w.heap.size, 0, none⟩ = some (.func (.func 71) #[] #[]) ∧ w'.cell? ⟨g1, 0, none⟩ = some (.int .i64 x) ∧ w'.cell? ⟨g1, 1, none⟩ = some (.int .i64 y)) (go_keep)
    (first
      | (go_at_call 71; (with_reducible refine (sure2_tell x y (w.alloc (.cells #[.func (.func 71) #[] #[]] 82)).drew).mono ?_); rintro e w1 ⟨rfl, hb1⟩; (have q0 : w1.cell? ⟨g1, 0, none⟩ = some (.int .i64 x) := cellB hb1 (r0)); (have q1 : w1.cell? ⟨g1, 1, none⟩ = some (.int .i64 y) := cellB hb1 (r1)); (have q2 : w1.cell? ⟨w.heap.size, 0, none⟩ = some (.func (.func 71) #[] #[]) := cellB hb1 (by go_simp)); (have hB1 : Below w.heap.size w w1 := Below.trans (by go_grown) (hb1.mono (by first | omega | (simp; done) | (simp; omega)))); (have z1 : w.heap.size < w1.heap.size := by have := hb1.size; simp at this; omega); (have z2 : ¬ w1.heap.size = g1 := by omega); (have z3 : ¬ g1 = w1.heap.size := by omega))
      | (go_at_call 71; (with_reducible refine (sure2_tell x y ((w.alloc (.cells #[.func (.func 71) #[] #[]] 82)).alloc (.cells #[.int .i64 0] 3)).drew).mono ?_); rintro e w1 ⟨rfl, hb1⟩; (have q0 : w1.cell? ⟨g1, 0, none⟩ = some (.int .i64 x) := cellB hb1 (cellB (by go_grown) r0)); (have q1 : w1.cell? ⟨g1, 1, none⟩ = some (.int .i64 y) := cellB hb1 (cellB (by go_grown) r1)); (have q2 : w1.cell? ⟨w.heap.size, 0, none⟩ = some (.func (.func 71) #[] #[]) := cellB hb1 (by go_simp)); (have q4 : w1.cell? ⟨w.heap.size + 1, 0, none⟩ = some (.int .i64 0) := cellB hb1 (by go_simp)); (have q5 : w1.frozen? ⟨w.heap.size + 1, 0, none⟩ = false := frozenB hb1 (by simp) (by go_simp)); (have hB1 : Below w.heap.size w w1 := Below.trans (by go_grown) (hb1.mono (by first | omega | (simp; done) | (simp; omega)))); (have z1 : w.heap.size < w1.heap.size := by have := hb1.size; simp at this; omega); (have z2 : ¬ w1.heap.size = g1 := by omega); (have z3 : ¬ g1 = w1.heap.size := by omega)))
  all_goals go_wp2_with (first
    | (go_at_call 91; (with_reducible refine (sure2_con _ xs y w.heap.size w1.heap.size _ _ t _ (HX.out.keep (belowSame (Below.trans hB1 (by go_grown)) hT)) (by go_simp) (by go_simp) HT.out).mono ?_); rintro e w2 ⟨rfl, hb2⟩; (have hB2 : Below w.heap.size w w2 := hB1.trans (Below.trans (by go_grown) (hb2.mono (by first | omega | (simp; done) | (simp; omega))))); (have n2 : w2.cell? ⟨w1.heap.size, 0, none⟩ = some (.int .i64 y) := cellB hb2 (by go_simp)))
    | (go_at_call 91; (with_reducible refine (sure2_con _ xs y w.heap.size (w.heap.size + 1) _ _ t _ (HX.out.keep (belowSame (Below.trans hB1 (by go_grown)) hT)) (by go_simp) (by go_simp) HT.out).mono ?_); rintro e w2 ⟨rfl, hb2⟩; (have hB2 : Below w.heap.size w w2 := hB1.trans (Below.trans (by go_grown) (hb2.mono (by first | omega | (simp; done) | (simp; omega))))); (have n2 : w2.cell? ⟨(w.heap.size + 1), 0, none⟩ = some (.int .i64 y) := cellB hb2 (by go_simp))))
  all_goals (cases t <;> (go_wp2; go_ret; exact ⟨rfl, hB2⟩))

end Go.Proofs.YtpliaenpencocaaDoor
