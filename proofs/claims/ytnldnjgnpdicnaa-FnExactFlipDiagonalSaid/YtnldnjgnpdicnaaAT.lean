/- Regions: sets that leave triangles. -/
import Derived.Test.YtnldnjgnpdicnaaAF
import Derived.Test.YtnldnjgnpdicnaaA4
import Derived.Test.YtnldnjgnpdicnaaW1
import Derived.Test.YtnldnjgnpdicnaaRows
namespace Go.Proofs.Ytnldnjgnpdicnaa
open Go.RowKit
set_option linter.unusedVariables false

set_option maxHeartbeats 400000 in
theorem noDiagFn (p x y : Int) (gd : Nat) (b : Bool) (w : World) (hp : 3 ≤ p ∧ p ≤ 60) (hx : 0 ≤ x ∧ x < y ∧ y < p) (hc : w.cell? ⟨gd, 0, none⟩ = some (.int .i64 p)) (hb : (!diagC p (x, y)) = b) :
    Calls Try.prog 101 #[.agg #[.int .i64 x, .int .i64 y], .pointer (some ⟨gd, 0, none⟩)] w fun e w' => e = .returned (.bool b) ∧ Below w.heap.size w w' := by
  have hgd := World.block_lt_of_cell? w _ hc
  simp only at hgd
  have z0 : (w.alloc (.cells #[.int .i64 x, .int .i64 y] 52)).cell? ⟨gd, 0, none⟩ = some (.int .i64 p) := cellB (by go_grown) hc
  obtain ⟨t, ht⟩ : ∃ t, diagC p (x, y) = t := ⟨_, rfl⟩
  rw [ht] at hb
  subst hb
  have HT := Lib.hid ht
  clear ht
  go_enter Try.func101, Try.ntmps101
  go_wp2_with (first | (go_at_call 102; (with_reducible refine (isDiagonal_lit p x y _ _ hp (by omega) (by omega) HT.out).mono ?_); rintro e w1 ⟨rfl, hb1⟩))
  go_ret
  exact ⟨rfl, Below.trans (by go_grown) (hb1.mono (by first | omega | (simp; done) | (simp; omega)))⟩

set_option maxHeartbeats 1000000 in
theorem noDiag_idx (u : Value) (xs : List (Int × Int)) (B T : Nat) (p : Int) (gd : Nat) (c : Int × Int → Bool) (w : World) (h : PairsIn 52 w B T u xs) (hn : xs.length ≤ 1000000) (hp : 3 ≤ p ∧ p ≤ 60) (hgo : ∀ k, k < xs.length → 0 ≤ (xs.getD k (0, 0)).1 ∧ (xs.getD k (0, 0)).1 < (xs.getD k (0, 0)).2 ∧ (xs.getD k (0, 0)).2 < p) (hcell : w.cell? ⟨gd, 0, none⟩ = some (.int .i64 p)) (hcd : ∀ k, k < xs.length → (!diagC p (xs.getD k (0, 0))) = c (xs.getD k (0, 0))) :
    Calls Try.prog 131 #[u, .func (.func 101) #[] #[.pointer (some ⟨gd, 0, none⟩)]] w fun e w' => ∃ r : Int, e = .returned (.int .i64 r) ∧ decide (0 ≤ r) = xs.any c ∧ Below w.heap.size w w' := by
  obtain ⟨a1, c1, g1, rfl, ha1, hmm, hx1, hy1⟩ := h.pairs.view
  have X := Lib.hid hx1
  have Y := Lib.hid hy1
  have HA := Lib.hid ha1
  have HCD := Lib.hid hcd
  have HP := Lib.hid hp
  have HGO := Lib.hid hgo
  have HCE := Lib.hid hcell
  clear hp hgo hcell
  clear h ha1 hx1 hy1 hmm hcd
  go_enter Try.func131, Try.ntmps131
  go_wp2
  go_loopw [8] (fun i wr => ∃ k : Nat, k ≤ xs.length ∧ i = .int .i64 k ∧ (xs.take k).any c = false ∧ Below w.heap.size w wr) (fun i _ => xs.length - (intOf i).toNat)
  case atStart => exact ⟨0, by omega, rfl, by simp, Below.refl _ _⟩
  case round =>
    obtain ⟨k, hk, rfl, hno, hB⟩ := hrel
    have HNO := Lib.hid hno
    have hz := hB.size
    clear hno
    by_cases hlt : k < xs.length
    · obtain rfl := HA.out (by omega)
      obtain ⟨x, y, hxy⟩ : ∃ x y, xs.getD k (0, 0) = (x, y) := ⟨_, _, rfl⟩
      have cx : wr.cell? ⟨g1, k * 2, none⟩ = _ := (hB.cell (p := ⟨g1, k * 2, none⟩) (World.block_lt_of_cell? w _ (X.out k hlt))).trans (X.out k hlt)
      have cy : wr.cell? ⟨g1, k * 2 + 1, none⟩ = _ := (hB.cell (p := ⟨g1, k * 2 + 1, none⟩) (World.block_lt_of_cell? w _ (Y.out k hlt))).trans (Y.out k hlt)
      have hcb0 := HCD.out k hlt
      rw [hxy] at cx cy hcb0
      simp only at cx cy hcb0
      have HXY := Lib.hid hxy
      have HLT := Lib.hid hlt
      have hgo := HGO.out k hlt
      rw [hxy] at hgo
      simp only at hgo
      have HGK := Lib.hid hgo
      have HCK := Lib.hid (cellB hB HCE.out)
      clear hgo
      have HC0 := Lib.hid hcb0
      clear hcb0 hxy
      cases hcb : c (x, y) with
      | true =>
        have HCB := Lib.hid hcb
        clear hcb
        go_wp2_with (first | (go_at_call 101; (refine (noDiagFn p x y gd true _ HP.out HGK.out HCK.out (HC0.out.trans HCB.out)).mono ?_); rintro e w1 ⟨rfl, hb1⟩; have hB1 := hB.trans (hb1.mono hz)))
        go_ret
        refine ⟨(k : Int), rfl, ?_, hB1⟩
        rw [decide_eq_true (show (0 : Int) ≤ (k : Int) by omega)]
        symm
        rw [List.any_eq_true]
        have hl := HLT.out
        refine ⟨(x, y), ?_, HCB.out⟩
        rw [← HXY.out, List.getD_eq_getElem?_getD, List.getElem?_eq_getElem hl]
        exact List.getElem_mem hl
      | false =>
        have HCB := Lib.hid hcb
        clear hcb
        go_wp2_with (first | (go_at_call 101; (refine (noDiagFn p x y gd false _ HP.out HGK.out HCK.out (HC0.out.trans HCB.out)).mono ?_); rintro e w1 ⟨rfl, hb1⟩; have hB1 := hB.trans (hb1.mono hz)))
        go_roundw
        case rel =>
          refine ⟨k + 1, by omega, by go_num, ?_, hB1⟩
          have hl := HLT.out
          have hxy := HXY.out
          rw [List.getD_eq_getElem?_getD, List.getElem?_eq_getElem hl, Option.getD_some] at hxy
          rw [List.take_succ_eq_append_getElem hl, List.any_append, HNO.out, hxy]
          simp [HCB.out]
        case measure => simp [intOf]; omega
    · obtain rfl : k = xs.length := by omega
      have hall := HNO.out
      rw [List.take_length] at hall
      have HALL := Lib.hid hall
      clear hall
      go_wp2
      go_ret
      exact ⟨-1, rfl, by rw [HALL.out]; decide, hB⟩

set_option maxHeartbeats 400000 in
theorem noDiag_any (u : Value) (xs : List (Int × Int)) (B T : Nat) (p : Int) (gd : Nat) (c : Int × Int → Bool) (w : World) (h : PairsIn 52 w B T u xs) (hn : xs.length ≤ 1000000) (hp : 3 ≤ p ∧ p ≤ 60) (hgo : ∀ k, k < xs.length → 0 ≤ (xs.getD k (0, 0)).1 ∧ (xs.getD k (0, 0)).1 < (xs.getD k (0, 0)).2 ∧ (xs.getD k (0, 0)).2 < p) (hcell : w.cell? ⟨gd, 0, none⟩ = some (.int .i64 p)) (hcd : ∀ k, k < xs.length → (!diagC p (xs.getD k (0, 0))) = c (xs.getD k (0, 0))) (t : Bool) (ht : xs.any c = t) :
    Calls Try.prog 104 #[u, .func (.func 101) #[] #[.pointer (some ⟨gd, 0, none⟩)]] w fun e w' => e = .returned (.bool t) ∧ Below w.heap.size w w' := by
  have HI := Lib.hid (noDiag_idx u xs B T p  gd c w h hn hp hgo hcell hcd)
  have HT := Lib.hid ht
  obtain ⟨a1, c1, g1, rfl, _⟩ := h.pairs.view
  clear h hn hcd ht
  go_enter Try.func104, Try.ntmps104
  go_wp2_with (first | (go_at_call 131; (refine (HI.out).mono ?_); rintro e w1 ⟨r, rfl, hr, hb1⟩; rw [HT.out] at hr; (have HR := Lib.hid hr); clear hr))
  go_ret
  exact ⟨by rw [← HR.out]; rfl, hb1⟩

/-- Does a set leave triangles? -/
def triB (p : Int) (xs : List (Int × Int)) : Bool := ((((allP xs xs.length).length : Int) == 0) && ((xs.length : Int) == p - 3)) && !xs.any fun c => !diagC p c

theorem goodC_pts {p : Int} {xs : List (Int × Int)} (h : goodC p xs) : ∀ k, k < xs.length → 0 ≤ (xs.getD k (0, 0)).1 ∧ (xs.getD k (0, 0)).1 < (xs.getD k (0, 0)).2 ∧ (xs.getD k (0, 0)).2 < p := fun k hk => (h.2.2 k hk).1

set_option maxHeartbeats 1000000 in
theorem isTriangled_yes (p : Int) (a0 : Option Addr) (cap : Nat) (xs : List (Int × Int)) (B T : Nat) (w : World) (h : PairsIn 52 w B T (.slice a0 xs.length cap) xs) (hT : T ≤ w.heap.size) (hg : goodC p xs) : Calls Try.prog 56 #[.agg #[.int .i64 p, .slice a0 xs.length cap]] w fun e w' => e = .returned (.bool (triB p xs)) ∧ Below w.heap.size w w' := by
  have hp := hg.1
  have hl := hg.2.1
  have HGO := Lib.hid (goodC_pts hg)
  have HG := Lib.hid hg
  have HH := Lib.hid h
  have hw1 : IntKind.i64.wrap (p - 3) = p - 3 := by rw [IntKind.wrap_i64]; omega
  unfold triB
  obtain ⟨s, hs⟩ : ∃ s, (((allP xs xs.length).length : Int) == 0) = s := ⟨_, rfl⟩
  obtain ⟨r, hr⟩ : ∃ s, ((xs.length : Int) == p - 3) = s := ⟨_, rfl⟩
  obtain ⟨t, ht⟩ : ∃ s, (xs.any fun c => !diagC p c) = s := ⟨_, rfl⟩
  rw [hs, hr, ht]
  have HS := Lib.hid hs
  have HT := Lib.hid ht
  clear hs ht hg h
  go_enter Try.func56, Try.ntmps56
  cases s <;> cases r <;> cases t
  all_goals
    go_wp2_with (first
      | (go_at_call 103; (refine (isPlaneD_yes p _ _ xs B T _ (HH.out.keep (belowSame (by go_grown) hT)) (Nat.le_trans hT (by simp)) HG.out).mono ?_); rw [HS.out]; rintro e w1 ⟨rfl, hb1⟩; (have c0 : w1.cell? ⟨w.heap.size, 0, none⟩ = some (.int .i64 p) := cellB hb1 (by go_simp)); (have c1 : w1.cell? ⟨w.heap.size, 1, none⟩ = some (.slice a0 xs.length cap) := cellB hb1 (by go_simp)); (have hB1 : Below w.heap.size w w1 := Below.trans (by go_grown) (hb1.mono (by simp))); have hz1 := hB1.size)
      | (go_at_call 104; go_loud (refine (noDiag_any _ xs B T p w.heap.size (fun c => !diagC p c) _ (HH.out.keep (belowSame hB1 hT)) (by omega) hp HGO.out c0 (fun k hk => rfl) _ HT.out).mono ?_); rintro e w2 ⟨rfl, hb2⟩; have hB2 := hB1.trans (hb2.mono hz1)))
    go_ret
    exact ⟨rfl, by first | exact hB2 | exact hB1⟩

set_option maxHeartbeats 400000 in
theorem isTriangled_no (p : Int) (a0 : Option Addr) (cap : Nat) (xs : List (Int × Int)) (B T : Nat) (w : World) (h : PairsIn 52 w B T (.slice a0 xs.length cap) xs) (hT : T ≤ w.heap.size) (hg : ¬ goodC p xs) : Calls Try.prog 56 #[.agg #[.int .i64 p, .slice a0 xs.length cap]] w fun e w' => e = .returned (.bool false) ∧ Below w.heap.size w w' := by
  go_enter Try.func56, Try.ntmps56
  go_wp2_with (first | (go_at_call 103; (with_reducible refine (isPlaneD_no p _ _ xs B T _ (h.keep (belowSame (by go_grown) hT)) (Nat.le_trans hT (by simp)) hg).mono ?_); rintro e w1 ⟨rfl, hb1⟩))
  go_ret
  exact ⟨rfl, Below.trans (by go_grown) (hb1.mono (by first | omega | (simp; done) | (simp; omega)))⟩

set_option maxHeartbeats 400000 in
theorem rePlane_yes (p : Int) (a0 : Option Addr) (cap : Nat) (xs : List (Int × Int)) (B T : Nat) (w : World) (h : PairsIn 52 w B T (.slice a0 xs.length cap) xs) (hT : T ≤ w.heap.size) (hg : goodC p xs) : Calls Try.prog 99 #[.int .i64 p, .slice a0 xs.length cap] w fun e w' => e = .returned (.bool (((allP xs xs.length).length : Int) == 0)) ∧ Below w.heap.size w w' := by
  have hl := hg.2.1
  have ho := chord_order hg
  obtain ⟨ps, hps⟩ : ∃ ps, allP xs xs.length = ps := ⟨_, rfl⟩
  rw [hps]
  have HPS := Lib.hid hps
  clear hps
  go_enter Try.func99, Try.ntmps99
  go_wp2_with (first | (go_at_call 48; (with_reducible refine (cdGood_yes p _ xs B T _ h hg).mono ?_); rintro e w1 ⟨rfl, hb1⟩; have h1 := h.keep (belowSame hb1 hT); have hz1 := hb1.size) | (go_at_call 129; (with_reducible refine (cdPairs_any _ xs B T _ h1 ho (Nat.le_trans hl (by omega))).mono ?_); rw [HPS.out]; rintro e w2 ⟨v, rfl, hr, hb2⟩; (obtain ⟨vs, hv⟩ := hr); (obtain ⟨a2, c2, g2, rfl, _, hm2, _⟩ := hv.view); clear hv))
  go_ret
  exact ⟨rfl, hb1.trans (hb2.mono hz1)⟩

theorem any_take_step {α : Type} (f : α → Bool) (xs : List α) (z : α) (k : Nat) (h : k < xs.length) : (xs.take (k + 1)).any f = ((xs.take k).any f || f (xs.getD k z)) := by
  rw [List.take_succ_eq_append_getElem h, List.any_append, List.getD_eq_getElem?_getD, List.getElem?_eq_getElem h]
  simp

set_option maxHeartbeats 1000000 in
theorem reTriangled_yes (p : Int) (a0 : Option Addr) (cap : Nat) (xs : List (Int × Int)) (B T : Nat) (w : World) (h : PairsIn 52 w B T (.slice a0 xs.length cap) xs) (hT : T ≤ w.heap.size) (hg : goodC p xs) : Calls Try.prog 49 #[.int .i64 p, .slice a0 xs.length cap] w fun e w' => e = .returned (.bool (triB p xs)) ∧ Below w.heap.size w w' := by
  have hp := hg.1
  have hl := hg.2.1
  have HGO := Lib.hid (goodC_pts hg)
  have HG := Lib.hid hg
  have HH := Lib.hid h
  have hw1 : IntKind.i64.wrap (p - 3) = p - 3 := by rw [IntKind.wrap_i64]; omega
  obtain ⟨a1, c1, g1, hv, ha1, hmm, hx1, hy1⟩ := h.pairs.view
  obtain ⟨rfl, _, rfl⟩ : a0 = a1 ∧ xs.length = xs.length ∧ cap = c1 := by simpa using hv
  have X := Lib.hid hx1
  have Y := Lib.hid hy1
  have HA := Lib.hid ha1
  clear h ha1 hx1 hy1 hmm hv hg
  go_enter Try.func49, Try.ntmps49
  go_wp2
  go_loopw [9] (fun i wr => ∃ k : Nat, k ≤ xs.length ∧ i = .int .i64 k ∧ ((xs.take k).any fun c => !diagC p c) = false ∧ Below w.heap.size w wr) (fun i _ => xs.length - (intOf i).toNat)
  case atStart => exact ⟨0, by omega, rfl, by simp, Below.refl _ _⟩
  case round =>
    obtain ⟨k, hk, rfl, hno, hB⟩ := hrel
    have hz := hB.size
    have HNO := Lib.hid hno
    clear hno
    by_cases hlt : k < xs.length
    · obtain rfl := HA.out (by omega)
      obtain ⟨x, y, hxy⟩ : ∃ x y, xs.getD k (0, 0) = (x, y) := ⟨_, _, rfl⟩
      have cx : wr.cell? ⟨g1, k * 2, none⟩ = _ := (hB.cell (p := ⟨g1, k * 2, none⟩) (World.block_lt_of_cell? w _ (X.out k hlt))).trans (X.out k hlt)
      have cy : wr.cell? ⟨g1, k * 2 + 1, none⟩ = _ := (hB.cell (p := ⟨g1, k * 2 + 1, none⟩) (World.block_lt_of_cell? w _ (Y.out k hlt))).trans (Y.out k hlt)
      have hgo := HGO.out k hlt
      have hst := any_take_step (fun c => !diagC p c) xs (0, 0) k hlt
      rw [hxy] at cx cy hgo hst
      simp only at cx cy hgo
      rw [HNO.out, Bool.false_or] at hst
      obtain ⟨t, ht⟩ : ∃ t, diagC p (x, y) = t := ⟨_, rfl⟩
      rw [ht] at hst
      have HT := Lib.hid ht
      have HST := Lib.hid hst
      clear ht hst hxy
      cases t
      · have hall : triB p xs = false := by
          unfold triB
          have : (xs.any fun c => !diagC p c) = true := by
            have h2 : ((xs.take (k + 1) ++ xs.drop (k + 1)).any fun c => !diagC p c) = true := by rw [List.any_append, HST.out]; rfl
            rwa [List.take_append_drop] at h2
          rw [this]
          simp
        have HALL := Lib.hid hall
        clear hall
        go_wp2_with (first | (go_at_call 98; (with_reducible refine (reDiagonal_lit p x y _ _ hp hgo HT.out).mono ?_); rintro e w1 ⟨rfl, hb1⟩; (have hB1 : Below w.heap.size w w1 := hB.trans (Below.trans (by go_grown) (hb1.mono (by simp; omega)))))) 
        go_ret
        exact ⟨by rw [HALL.out]; rfl, hB1⟩
      · go_wp2_with (first | (go_at_call 98; (with_reducible refine (reDiagonal_lit p x y _ _ hp hgo HT.out).mono ?_); rintro e w1 ⟨rfl, hb1⟩; (have hB1 : Below w.heap.size w w1 := hB.trans (Below.trans (by go_grown) (hb1.mono (by simp; omega))))))
        go_roundw
        case rel => exact ⟨k + 1, by omega, by go_num, HST.out, hB1⟩
        case measure => simp [intOf]; omega
    · obtain rfl : k = xs.length := by omega
      have hno := HNO.out
      rw [List.take_length] at hno
      have he : triB p xs = ((((allP xs xs.length).length : Int) == 0) && ((xs.length : Int) == p - 3)) := by unfold triB; rw [hno]; simp
      have HE := Lib.hid he
      obtain ⟨s, hs⟩ : ∃ s, (((allP xs xs.length).length : Int) == 0) = s := ⟨_, rfl⟩
      obtain ⟨r, hr⟩ : ∃ s, ((xs.length : Int) == p - 3) = s := ⟨_, rfl⟩
      have HS := Lib.hid hs
      have HR := Lib.hid hr
      clear hs he hno
      cases s <;> cases r
      all_goals
        go_wp2_with (first | (go_at_call 99; (refine (rePlane_yes p _ _ xs B T _ (HH.out.keep (belowSame hB hT)) (by omega) HG.out).mono ?_); rw [HS.out]; rintro e w1 ⟨rfl, hb1⟩; have hB1 := hB.trans (hb1.mono hz)))
        go_ret
        exact ⟨by rw [HE.out, HS.out, HR.out]; rfl, hB1⟩