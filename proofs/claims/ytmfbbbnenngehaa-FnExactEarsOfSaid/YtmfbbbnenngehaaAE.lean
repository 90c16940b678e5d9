/- Regions: the ears of a set that leaves triangles. -/
import Derived.Test.YtmfbbbnenngehaaAT
import Derived.Test.YtmfbbbnenngehaaET
import Derived.Test.YtmfbbbnenngehaaV1
namespace Go.Proofs.Ytmfbbbnenngehaa
open Go.RowKit
set_option linter.unusedVariables false

/-- Is a point one of a chord's? -/
def atC (k : Int) (c : Int × Int) : Bool := c.1 == k || c.2 == k
/-- Is a point in no chord? -/
def earB (xs : List (Int × Int)) (k : Nat) : Bool := !xs.any (atC k)

set_option maxHeartbeats 400000 in
theorem atFn (x y k : Int) (gk : Nat) (b : Bool) (w : World) (hc : w.cell? ⟨gk, 0, none⟩ = some (.int .i64 k)) (hb : atC k (x, y) = b) :
    Calls Try.prog 99 #[.agg #[.int .i64 x, .int .i64 y], .pointer (some ⟨gk, 0, none⟩)] w fun e w' => e = .returned (.bool b) ∧ Below w.heap.size w w' := by
  have hgk := World.block_lt_of_cell? w _ hc
  simp only at hgk
  have z0 : (w.alloc (.cells #[.int .i64 x, .int .i64 y] 59)).cell? ⟨gk, 0, none⟩ = some (.int .i64 k) := cellB (by go_grown) hc
  obtain ⟨s, hs⟩ : ∃ s, (x == k) = s := ⟨_, rfl⟩
  obtain ⟨r, hr⟩ : ∃ s, (y == k) = s := ⟨_, rfl⟩
  have he : atC k (x, y) = (s || r) := by rw [← hs, ← hr]; rfl
  rw [he] at hb
  subst hb
  clear he
  go_enter Try.func99, Try.ntmps99
  cases s <;> cases r
  all_goals
    go_wp2
    go_ret
    exact ⟨rfl, by go_grown⟩

set_option maxHeartbeats 1000000 in
theorem atPoint_idx (u : Value) (xs : List (Int × Int)) (B T : Nat) (k0 : Int) (gk : Nat) (c : Int × Int → Bool) (w : World) (h : PairsIn 59 w B T u xs) (hn : xs.length ≤ 1000000) (hcell : w.cell? ⟨gk, 0, none⟩ = some (.int .i64 k0)) (hcd : ∀ k, k < xs.length → atC k0 (xs.getD k (0, 0)) = c (xs.getD k (0, 0))) :
    Calls Try.prog 105 #[u, .func (.func 99) #[] #[.pointer (some ⟨gk, 0, none⟩)]] w fun e w' => ∃ r : Int, e = .returned (.int .i64 r) ∧ decide (0 ≤ r) = xs.any c ∧ Below w.heap.size w w' := by
  obtain ⟨a1, c1, g1, rfl, ha1, hmm, hx1, hy1⟩ := h.pairs.view
  have X := Lib.hid hx1
  have Y := Lib.hid hy1
  have HA := Lib.hid ha1
  have HCD := Lib.hid hcd
  have HCE := Lib.hid hcell
  clear hcell
  clear h ha1 hx1 hy1 hmm hcd
  go_enter Try.func105, Try.ntmps105
  go_wp2
  go_loopw [8] (fun i wr => ∃ k : Nat, k ≤ xs.length ∧ i = .int .i64 k ∧ (xs.take k).any c = false ∧ Below w.heap.size w wr) (fun i _ => xs.length - (intOf i).toNat)
  case atStart => exact ⟨0, by omega, rfl, by simp, Below.refl _ _⟩
  case round =>
    obtain ⟨k, hk, rfl, hno, hB⟩ := hrel
    have HNO := Lib.hid hno
    have hz := hB.size
    clear hno
    by_cases hlt : k < xs.length
    · obtain rfl := HA.out (by omega)
      obtain ⟨x, y, hxy⟩ : ∃ x y, xs.getD k (0, 0) = (x, y) := ⟨_, _, rfl⟩
      have cx : wr.cell? ⟨g1, k * 2, none⟩ = _ := (hB.cell (p := ⟨g1, k * 2, none⟩) (World.block_lt_of_cell? w _ (X.out k hlt))).trans (X.out k hlt)
      have cy : wr.cell? ⟨g1, k * 2 + 1, none⟩ = _ := (hB.cell (p := ⟨g1, k * 2 + 1, none⟩) (World.block_lt_of_cell? w _ (Y.out k hlt))).trans (Y.out k hlt)
      have hcb0 := HCD.out k hlt
      rw [hxy] at cx cy hcb0
      simp only at cx cy hcb0
      have HXY := Lib.hid hxy
      have HLT := Lib.hid hlt
      have HCK := Lib.hid (cellB hB HCE.out)
      have HC0 := Lib.hid hcb0
      clear hcb0 hxy
      cases hcb : c (x, y) with
      | true =>
        have HCB := Lib.hid hcb
        clear hcb
        go_wp2_with (first | (go_at_call 99; (refine (atFn x y k0 gk true _ HCK.out (HC0.out.trans HCB.out)).mono ?_); rintro e w1 ⟨rfl, hb1⟩; have hB1 := hB.trans (hb1.mono hz)))
        go_ret
        refine ⟨(k : Int), rfl, ?_, hB1⟩
        rw [decide_eq_true (show (0 : Int) ≤ (k : Int) by omega)]
        symm
        rw [List.any_eq_true]
        have hl := HLT.out
        refine ⟨(x, y), ?_, HCB.out⟩
        rw [← HXY.out, List.getD_eq_getElem?_getD, List.getElem?_eq_getElem hl]
        exact List.getElem_mem hl
      | false =>
        have HCB := Lib.hid hcb
        clear hcb
        go_wp2_with (first | (go_at_call 99; (refine (atFn x y k0 gk false _ HCK.out (HC0.out.trans HCB.out)).mono ?_); rintro e w1 ⟨rfl, hb1⟩; have hB1 := hB.trans (hb1.mono hz)))
        go_roundw
        case rel =>
          refine ⟨k + 1, by omega, by go_num, ?_, hB1⟩
          have hl := HLT.out
          have hxy := HXY.out
          rw [List.getD_eq_getElem?_getD, List.getElem?_eq_getElem hl, Option.getD_some] at hxy
          rw [List.take_succ_eq_append_getElem hl, List.any_append, HNO.out, hxy]
          simp [HCB.out]
        case measure => simp [intOf]; omega
    · obtain rfl : k = xs.length := by omega
      have hall := HNO.out
      rw [List.take_length] at hall
      have HALL := Lib.hid hall
      clear hall
      go_wp2
      go_ret
      exact ⟨-1, rfl, by rw [HALL.out]; decide, hB⟩

set_option maxHeartbeats 400000 in
theorem atPoint_any (u : Value) (xs : List (Int × Int)) (B T : Nat) (k0 : Int) (gk : Nat) (c : Int × Int → Bool) (w : World) (h : PairsIn 59 w B T u xs) (hn : xs.length ≤ 1000000) (hcell : w.cell? ⟨gk, 0, none⟩ = some (.int .i64 k0)) (hcd : ∀ k, k < xs.length → atC k0 (xs.getD k (0, 0)) = c (xs.getD k (0, 0))) (t : Bool) (ht : xs.any c = t) :
    Calls Try.prog 96 #[u, .func (.func 99) #[] #[.pointer (some ⟨gk, 0, none⟩)]] w fun e w' => e = .returned (.bool t) ∧ Below w.heap.size w w' := by
  have HI := Lib.hid (atPoint_idx u xs B T k0  gk c w h hn hcell hcd)
  have HT := Lib.hid ht
  obtain ⟨a1, c1, g1, rfl, _⟩ := h.pairs.view
  clear h hn hcd ht
  go_enter Try.func96, Try.ntmps96
  go_wp2_with (first | (go_at_call 105; (refine (HI.out).mono ?_); rintro e w1 ⟨r, rfl, hr, hb1⟩; rw [HT.out] at hr; (have HR := Lib.hid hr); clear hr))
  go_ret
  exact ⟨by rw [← HR.out]; rfl, hb1⟩

set_option maxHeartbeats 400000 in
theorem freeFn (n k gd : Nat) (a0 : Option Addr) (cap : Nat) (xs : List (Int × Int)) (B T : Nat) (b : Bool) (w : World) (h : PairsIn 59 w B T (.slice a0 xs.length cap) xs) (hT : T ≤ w.heap.size) (hl : xs.length ≤ 40) (hc : w.cell? ⟨gd, 1, none⟩ = some (.slice a0 xs.length cap)) (hb : earB xs k = b) :
    Calls Try.prog 98 #[.int .i64 k, .pointer (some ⟨gd, 0, none⟩)] w fun e w' => e = .returned (.bool b) ∧ Below w.heap.size w w' := by
  have hgd := World.block_lt_of_cell? w _ hc
  simp only at hgd
  have z0 : (w.alloc (.cells #[.int .i64 k] 3)).cell? ⟨gd, 1, none⟩ = some (.slice a0 xs.length cap) := cellB (by go_grown) hc
  have HH := Lib.hid h
  obtain ⟨t, ht⟩ : ∃ t, xs.any (atC k) = t := ⟨_, rfl⟩
  have hb2 : (!t) = b := by rw [← hb, ← ht]; rfl
  subst hb2
  have HT := Lib.hid ht
  clear ht h hb
  go_enter Try.func98, Try.ntmps98
  go_wp2_with (first | (go_at_call 96; (refine (atPoint_any _ xs B T k w.heap.size (atC k) _ (HH.out.keep (belowSame (by go_grown) hT)) (by omega) (by go_simp) (fun i hi => rfl) _ HT.out).mono ?_); rintro e w1 ⟨rfl, hb1⟩))
  go_ret
  exact ⟨rfl, Below.trans (by go_grown) (hb1.mono (by first | omega | (simp; done) | (simp; omega)))⟩

set_option maxHeartbeats 1000000 in
theorem where_free (p : Nat) (gd : Nat) (a0 : Option Addr) (cap : Nat) (xs : List (Int × Int)) (B T : Nat) (c : Nat → Bool) (w : World) (h : 3 ≤ p ∧ p ≤ 60) (h1 : PairsIn 59 w B T (.slice a0 xs.length cap) xs) (hT : T ≤ w.heap.size) (hl : xs.length ≤ 40) (hc : w.cell? ⟨gd, 1, none⟩ = some (.slice a0 xs.length cap)) (hcd : ∀ k, k < p → earB xs k = c k) :
    Calls Try.prog 97 #[.int .i64 p, .func (.func 98) #[] #[.pointer (some ⟨gd, 0, none⟩)]] w (GivesT w (selT c p)) := by
  have HCD := Lib.hid hcd
  have HH := Lib.hid h1
  have HCE := Lib.hid hc
  clear hcd h1 hc
  go_enter Try.func97, Try.ntmps97
  go_wp2
  go_loopw [5, 8] (fun u i wr => ∃ k : Nat, k ≤ p ∧ i = .int .i64 k ∧ Ints wr w.heap.size 3 u (selT c k) ∧ Below w.heap.size w wr) (fun _ i _ => p - (intOf i).toNat)
  case atStart => exact ⟨0, by omega, rfl, World.ownsRow_nil _ _ _ _, Below.refl _ _⟩
  case round =>
    obtain ⟨k, hk, rfl, hI, hB⟩ := hrel
    have HI := Lib.hid hI
    have hz := hB.size
    clear hI
    by_cases hlt : k < p
    · have hlen := selT_length c k
      have HH2 := Lib.hid (HH.out.keep (belowSame hB hT))
      have HC2 := Lib.hid (cellB hB HCE.out)
      cases hcb : c k with
      | true =>
        have HS := Lib.hid (selT_yes c k hcb)
        have HCB := Lib.hid hcb
        clear hcb
        go_wp2_with (first
          | (go_at_call 98; (refine (freeFn p k gd a0 cap xs B T true _ HH2.out (by omega) hl HC2.out ((HCD.out k hlt).trans HCB.out)).mono ?_); rintro e w1 ⟨rfl, hb1⟩; have HI1 := Lib.hid (HI.out.later hb1); have hB1 := hB.trans (hb1.mono hz); have hz1 := hB1.size)
          | (at_builtin; refine wpList_append_int rfl _ _ 50 rfl (w.heap.size) 3 Try.underlying50 info_int _ _ rfl HI1.out (k : Int) rfl (by omega) (by omega) ?_; intro v' w' hI' hg'; have hB' := HI1.out.below hB1 hz1 hg'; rw [HS.out] at hI'; have HI' := Lib.hid hI'; clear hI'))
        go_roundw
        case rel => exact ⟨k + 1, by omega, by go_num, HI'.out, hB'⟩
        case measure => simp [intOf]; omega
      | false =>
        have HS := Lib.hid (selT_no c k hcb)
        have HCB := Lib.hid hcb
        clear hcb
        go_wp2_with (first
          | (go_at_call 98; (refine (freeFn p k gd a0 cap xs B T false _ HH2.out (by omega) hl HC2.out ((HCD.out k hlt).trans HCB.out)).mono ?_); rintro e w1 ⟨rfl, hb1⟩; have HI1 := Lib.hid (HI.out.later hb1); have hB1 := hB.trans (hb1.mono hz)))
        go_roundw
        case rel => exact ⟨k + 1, by omega, by go_num, by rw [← HS.out]; exact HI1.out, hB1⟩
        case measure => simp [intOf]; omega
    · obtain rfl : k = p := by omega
      go_wp2
      go_ret
      exact ⟨_, rfl, HI.out, hB⟩

set_option maxHeartbeats 400000 in
theorem freePoints_any (n : Nat) (a0 : Option Addr) (cap : Nat) (xs : List (Int × Int)) (B T : Nat) (w : World) (h : PairsIn 59 w B T (.slice a0 xs.length cap) xs) (hT : T ≤ w.heap.size) (hn : 3 ≤ n ∧ n ≤ 60) (hl : xs.length ≤ 40) :
    Calls Try.prog 81 #[.agg #[.int .i64 n, .slice a0 xs.length cap]] w (GivesT w (selT (earB xs) n)) := by
  go_enter Try.func81, Try.ntmps81
  go_wp2_with (first | (go_at_call 97; (with_reducible refine (where_free n w.heap.size a0 cap xs B T (earB xs) _ hn (h.keep (belowSame (by go_grown) hT)) (Nat.le_trans hT (by first | (simp; done) | (simp; omega))) hl (by go_simp) (fun k _ => rfl)).mono ?_); rintro e w1 ⟨v, rfl, hI, hb1⟩))
  go_ret
  exact ⟨_, rfl, hI.mono (by simp), Below.trans (by go_grown) (hb1.mono (by first | omega | (simp; done) | (simp; omega)))⟩

set_option maxHeartbeats 400000 in
theorem told_ears (n : Nat) (a0 : Option Addr) (cap : Nat) (xs : List (Int × Int)) (B T : Nat) (w : World) (h : PairsIn 59 w B T (.slice a0 xs.length cap) xs) (hT : T ≤ w.heap.size) (hg : goodC n xs) (ht : triB n xs = true) : Calls Try.prog 80 #[.int .i64 n, .slice a0 xs.length cap, .func (.func 77) #[] #[], .func (.func 81) #[] #[]] w (Gives (IntsIn 3) w (selT (earB xs) n) true) := by
  have hp := hg.1
  have hl := hg.2.1
  have hn : 3 ≤ n ∧ n ≤ 60 := by omega
  have HT := Lib.hid ht
  clear ht
  go_enter Try.func80, Try.ntmps80
  go_wp2_with (first | (go_at_call 77; (refine (isTriangled_yes n _ _ xs B T _ (h.keep (belowSame (by go_grown) hT)) (Nat.le_trans hT (by first | (simp; done) | (simp; omega))) hg).mono ?_); rw [HT.out]; rintro e w1 ⟨rfl, hb1⟩; (have c0 : w1.cell? ⟨w.heap.size, 0, none⟩ = some (.int .i64 n) := cellB hb1 (by go_simp)); (have c1 : w1.cell? ⟨w.heap.size, 1, none⟩ = some (.slice a0 xs.length cap) := cellB hb1 (by go_simp)); (have hB1 : Below w.heap.size w w1 := Below.trans (by go_grown) (hb1.mono (by first | omega | (simp; done) | (simp; omega)))); have hz1 := hB1.size) | (go_at_call 81; (with_reducible refine (freePoints_any n _ _ xs B T _ (h.keep (belowSame hB1 hT)) (by omega) hn hl).mono ?_); rintro e w2 ⟨v, rfl, hI, hb2⟩))
  go_ret2
  exact ⟨_, rfl, ⟨hI.mono hz1, fun k hk => (hI.own k hk).2⟩, hB1.trans (hb2.mono hz1)⟩

set_option maxHeartbeats 400000 in
theorem told_ears_not (p : Int) (a0 : Option Addr) (cap : Nat) (xs : List (Int × Int)) (B T : Nat) (w : World) (h : PairsIn 59 w B T (.slice a0 xs.length cap) xs) (hT : T ≤ w.heap.size) (f : Value) (hg : goodC p xs) (ht : triB p xs = false) : Calls Try.prog 80 #[.int .i64 p, .slice a0 xs.length cap, .func (.func 77) #[] #[], f] w (Gives (IntsIn 3) w [] false) := by
  have HT := Lib.hid ht
  clear ht
  go_enter Try.func80, Try.ntmps80
  go_wp2_with (first | (go_at_call 77; (refine (isTriangled_yes p _ _ xs B T _ (h.keep (belowSame (by go_grown) hT)) (Nat.le_trans hT (by first | (simp; done) | (simp; omega))) hg).mono ?_); rw [HT.out]; rintro e w1 ⟨rfl, hb1⟩))
  go_ret2
  exact ⟨_, rfl, IntsIn.nil _ _ _ _, Below.trans (by go_grown) (hb1.mono (by first | omega | (simp; done) | (simp; omega)))⟩

set_option maxHeartbeats 400000 in
theorem told_ears_bad (p : Int) (a0 : Option Addr) (cap : Nat) (xs : List (Int × Int)) (B T : Nat) (w : World) (h : PairsIn 59 w B T (.slice a0 xs.length cap) xs) (hT : T ≤ w.heap.size) (f : Value) (hg : ¬ goodC p xs) : Calls Try.prog 80 #[.int .i64 p, .slice a0 xs.length cap, .func (.func 77) #[] #[], f] w (Gives (IntsIn 3) w [] false) := by
  go_enter Try.func80, Try.ntmps80
  go_wp2_with (first | (go_at_call 77; (with_reducible refine (isTriangled_no p _ _ xs B T _ (h.keep (belowSame (by go_grown) hT)) (Nat.le_trans hT (by first | (simp; done) | (simp; omega))) hg).mono ?_); rintro e w1 ⟨rfl, hb1⟩))
  go_ret2
  exact ⟨_, rfl, IntsIn.nil _ _ _ _, Below.trans (by go_grown) (hb1.mono (by first | omega | (simp; done) | (simp; omega)))⟩

set_option maxHeartbeats 400000 in
theorem iEars_yes (n : Nat) (a0 : Option Addr) (cap : Nat) (xs : List (Int × Int)) (B T : Nat) (w : World) (h : PairsIn 59 w B T (.slice a0 xs.length cap) xs) (hT : T ≤ w.heap.size) (hg : goodC n xs) (ht : triB n xs = true) : Calls Try.prog 41 #[.int .i64 n, .slice a0 xs.length cap] w (Gives (IntsIn 3) w (selT (earB xs) n) true) := by
  go_enter Try.func41, Try.ntmps41
  go_wp2_with (first | (go_at_call 80; (with_reducible refine (told_ears n _ _ xs B T _ h hT hg ht).mono ?_); rintro e w1 ⟨v, rfl, hI, hb1⟩))
  go_ret2
  exact ⟨_, rfl, hI, hb1⟩

set_option maxHeartbeats 400000 in
theorem iEars_not (p : Int) (a0 : Option Addr) (cap : Nat) (xs : List (Int × Int)) (B T : Nat) (w : World) (h : PairsIn 59 w B T (.slice a0 xs.length cap) xs) (hT : T ≤ w.heap.size) (hg : goodC p xs) (ht : triB p xs = false) : Calls Try.prog 41 #[.int .i64 p, .slice a0 xs.length cap] w (Gives (IntsIn 3) w [] false) := by
  go_enter Try.func41, Try.ntmps41
  go_wp2_with (first | (go_at_call 80; (with_reducible refine (told_ears_not p _ _ xs B T _ h hT _ hg ht).mono ?_); rintro e w1 ⟨v, rfl, hI, hb1⟩))
  go_ret2
  exact ⟨_, rfl, hI, hb1⟩

set_option maxHeartbeats 400000 in
theorem iEars_bad (p : Int) (a0 : Option Addr) (cap : Nat) (xs : List (Int × Int)) (B T : Nat) (w : World) (h : PairsIn 59 w B T (.slice a0 xs.length cap) xs) (hT : T ≤ w.heap.size) (hg : ¬ goodC p xs) : Calls Try.prog 41 #[.int .i64 p, .slice a0 xs.length cap] w (Gives (IntsIn 3) w [] false) := by
  go_enter Try.func41, Try.ntmps41
  go_wp2_with (first | (go_at_call 80; (with_reducible refine (told_ears_bad p _ _ xs B T _ h hT _ hg).mono ?_); rintro e w1 ⟨v, rfl, hI, hb1⟩))
  go_ret2
  exact ⟨_, rfl, hI, hb1⟩

set_option maxHeartbeats 400000 in
theorem sEars_not (p : Int) (a0 : Option Addr) (cap : Nat) (xs : List (Int × Int)) (B T : Nat) (w : World) (h : PairsIn 59 w B T (.slice a0 xs.length cap) xs) (hT : T ≤ w.heap.size) (hg : goodC p xs) (ht : triB p xs = false) : Calls Try.prog 40 #[.int .i64 p, .slice a0 xs.length cap] w (Gives (IntsIn 3) w [] false) := by
  have HT := Lib.hid ht
  clear ht
  go_enter Try.func40, Try.ntmps40
  go_wp2_with (first | (go_at_call 45; (with_reducible refine (cdGood_yes p _ xs B T _ h hg).mono ?_); rintro e w1 ⟨rfl, hb1⟩; have h1 := h.keep (belowSame hb1 hT); have hz1 := hb1.size) | (go_at_call 75; (refine (reTriangled_yes p _ _ xs B T _ h1 (by omega) hg).mono ?_); rw [HT.out]; rintro e w2 ⟨rfl, hb2⟩; have hb1 := hb1.trans (hb2.mono hz1)))
  go_ret2
  exact ⟨_, rfl, IntsIn.nil _ _ _ _, hb1⟩

set_option maxHeartbeats 400000 in
theorem sEars_bad (p : Int) (a0 : Option Addr) (cap : Nat) (xs : List (Int × Int)) (B T : Nat) (w : World) (h : PairsIn 59 w B T (.slice a0 xs.length cap) xs) (hT : T ≤ w.heap.size) (hg : ¬ goodC p xs) : Calls Try.prog 40 #[.int .i64 p, .slice a0 xs.length cap] w (Gives (IntsIn 3) w [] false) := by
  go_enter Try.func40, Try.ntmps40
  go_wp2_with (first | (go_at_call 45; (with_reducible refine (cdGood_no p _ xs B T _ h hg).mono ?_); rintro e w1 ⟨rfl, hb1⟩; have h1 := h.keep (belowSame hb1 hT); have hz1 := hb1.size))
  go_ret2
  exact ⟨_, rfl, IntsIn.nil _ _ _ _, hb1⟩

set_option maxHeartbeats 2000000 in
theorem sEars_yes (n : Nat) (a0 : Option Addr) (cap : Nat) (xs : List (Int × Int)) (B T : Nat) (w : World) (h : PairsIn 59 w B T (.slice a0 xs.length cap) xs) (hT : T ≤ w.heap.size) (hg : goodC n xs) (ht : triB n xs = true) : Calls Try.prog 40 #[.int .i64 n, .slice a0 xs.length cap] w (Gives (IntsIn 3) w (selT (earB xs) n) true) := by
  have hp := hg.1
  have hl := hg.2.1
  have HT := Lib.hid ht
  have HG := Lib.hid hg
  have HH := Lib.hid h
  obtain ⟨a1, c1, g1, hv, ha1, hmm, hx1, hy1⟩ := h.pairs.view
  obtain ⟨rfl, _, rfl⟩ : a0 = a1 ∧ xs.length = xs.length ∧ cap = c1 := by simpa using hv
  have X := Lib.hid hx1
  have Y := Lib.hid hy1
  have HA := Lib.hid ha1
  clear h ha1 hx1 hy1 hmm hv hg ht
  go_enter Try.func40, Try.ntmps40
  go_wp2_with (first | (go_at_call 45; (with_reducible refine (cdGood_yes n _ xs B T _ HH.out HG.out).mono ?_); rintro e w1 ⟨rfl, hb1⟩; have h1 := HH.out.keep (belowSame hb1 hT); have hz1 := hb1.size) | (go_at_call 75; (refine (reTriangled_yes n _ _ xs B T _ h1 (by omega) HG.out).mono ?_); rw [HT.out]; rintro e w2 ⟨rfl, hb2⟩; have hB2 := hb1.trans (hb2.mono hz1); clear hb1 hb2 h1 hz1))
  have hz2 := hB2.size
  go_loopw [6, 7] (fun u i wr => ∃ k : Nat, k ≤ n ∧ i = .int .i64 k ∧ Ints wr w2.heap.size 3 u (selT (earB xs) k) ∧ Below w.heap.size w wr ∧ w2.heap.size ≤ wr.heap.size) (fun _ i _ => n - (intOf i).toNat)
  case atStart => exact ⟨0, by omega, rfl, World.ownsRow_nil _ _ _ _, hB2, Nat.le_refl _⟩
  case round =>
    obtain ⟨wo, rfl⟩ : ∃ z, z = wr := ⟨wr, rfl⟩
    obtain ⟨k, hk, rfl, hI, hB, hz⟩ := hrel
    have hz0 := hB.size
    have HI := Lib.hid hI
    clear hI
    by_cases hlt : k < n
    · have hlen := selT_length (earB xs) k
      go_wp2
      go_loopw [8, 28] (fun e i wr => ∃ j : Nat, j ≤ xs.length ∧ i = .int .i64 j ∧ e = .bool (!(xs.take j).any (atC k)) ∧ Below wo.heap.size wo wr) (fun _ i _ => xs.length - (intOf i).toNat)
      case atStart => exact ⟨0, by omega, rfl, by simp, Below.refl _ _⟩
      case round =>
        obtain ⟨j, hj, rfl, rfl, hBj⟩ := hrel
        have hBj2 := hB.trans (hBj.mono hz0)
        have hzj := hBj.size
        by_cases hjl : j < xs.length
        · obtain rfl := HA.out (by omega)
          obtain ⟨x, y, hxy⟩ : ∃ x y, xs.getD j (0, 0) = (x, y) := ⟨_, _, rfl⟩
          have cx : wr.cell? ⟨g1, j * 2, none⟩ = _ := (hBj2.cell (p := ⟨g1, j * 2, none⟩) (World.block_lt_of_cell? w _ (X.out j hjl))).trans (X.out j hjl)
          have cy : wr.cell? ⟨g1, j * 2 + 1, none⟩ = _ := (hBj2.cell (p := ⟨g1, j * 2 + 1, none⟩) (World.block_lt_of_cell? w _ (Y.out j hjl))).trans (Y.out j hjl)
          have hst := any_take_step (atC k) xs (0, 0) j hjl
          rw [hxy] at cx cy hst
          simp only at cx cy
          obtain ⟨s0, hs0⟩ : ∃ s, (xs.take j).any (atC k) = s := ⟨_, rfl⟩
          rw [hs0] at hst ⊢
          obtain ⟨s1, hs1⟩ : ∃ s, (x == (k : Int)) = s := ⟨_, rfl⟩
          obtain ⟨s2, hs2⟩ : ∃ s, (y == (k : Int)) = s := ⟨_, rfl⟩
          have hat : atC k (x, y) = (s1 || s2) := by unfold atC; rw [hs1, hs2]
          rw [hat] at hst
          have HST := Lib.hid hst
          have n1 : (x != (k : Int)) = !s1 := by rw [bne, hs1]
          have n2 : (y != (k : Int)) = !s2 := by rw [bne, hs2]
          clear hxy hst hat hs0
          cases s0 <;> cases s1 <;> cases s2
          all_goals
            go_wp2
            go_roundw
            case rel => exact ⟨j + 1, by omega, by go_num, by rw [HST.out]; rfl, Below.trans hBj (by go_grown)⟩
            case measure => simp [intOf]; omega
        · obtain rfl : j = xs.length := by omega
          rw [List.take_length]
          obtain ⟨t, ht⟩ : ∃ t, earB xs k = t := ⟨_, rfl⟩
          have hte : (!xs.any (atC k)) = t := ht
          rw [hte]
          have HI2 := Lib.hid (HI.out.later hBj)
          cases t
          · have HS := Lib.hid (selT_no (earB xs) k ht)
            clear ht hte
            go_wp2
            go_roundw
            case rel => exact ⟨k + 1, by omega, by go_num, by rw [← HS.out]; exact HI2.out, hBj2, by omega⟩
            case measure => simp [intOf]; omega
          · have HS := Lib.hid (selT_yes (earB xs) k ht)
            clear ht hte
            go_wp2_with (at_builtin; refine wpList_append_int rfl _ _ 50 rfl w2.heap.size 3 Try.underlying50 info_int _ _ rfl HI2.out (k : Int) rfl (by omega) (by omega) ?_; intro v' w' hI' hg'; (have hB' : Below w.heap.size w w' := hBj2.grown hg' (by omega) (fun q hq => by have := (HI2.out.own q hq).1; omega)); rw [HS.out] at hI'; have HI' := Lib.hid hI'; have hgs := hg'.size; clear hI')
            go_roundw
            case rel => exact ⟨k + 1, by omega, by go_num, HI'.out, hB', by omega⟩
            case measure => simp [intOf]; omega
    · obtain rfl : k = n := by omega
      go_wp2
      go_ret2
      exact ⟨_, rfl, ⟨HI.out.mono hz2, fun q hq => (HI.out.own q hq).2⟩, hB⟩

set_option maxHeartbeats 1000000 in
theorem core_EarsOf (p : Int) (v : Value) (xs : List (Int × Int)) (x : List Int) (b : Bool) (w : World) (hA : ArgP w v xs) (hn : xs.length ≤ 1048576) (hx : x.length ≤ 1000000)
    (hs : ∀ (W : World) (u : Value) (B T : Nat), PairsIn 59 W B T u xs → T ≤ W.heap.size → Calls Try.prog 40 #[.int .i64 p, u] W (Gives (IntsIn 3) W x b))
    (hi : ∀ (W : World) (u : Value) (B T : Nat), PairsIn 59 W B T u xs → T ≤ W.heap.size → Calls Try.prog 41 #[.int .i64 p, u] W (Gives (IntsIn 3) W x b)) :
    Calls Try.prog 13 #[.int .i64 p, v] w fun e w' => e = .returned (.bool true) ∧ Below w.heap.size w w' := by
  have hA1 := hA
  obtain ⟨a0, cap, a, rfl, _⟩ := hA1
  have HS := Lib.hid hs
  have HI := Lib.hid hi
  have HA := Lib.hid hA
  clear hs hi hA
  go_enter Try.func13, Try.ntmps13
  go_wp2_with fail
  refine (szChordS_yes _ _ _ _ hn).mono ?_
  rintro e w0 ⟨rfl, rfl⟩
  go_wp2_with fail
  refine (toChordS_any _ _ _ (HA.out.later (by go_grown)) hn).mono ?_
  rintro e w1 ⟨va, rfl, ka_1, hb1⟩
  have n1 : w.heap.size ≤ w1.heap.size := by have := hb1.size; (try simp at this); omega
  have B1 : Below w.heap.size w w1 := Below.trans (by go_grown) (hb1.mono (by first | (simp; done) | (simp; omega)))
  go_wp2_with fail
  refine (HS.out _ _ _ _ ka_1 (by omega)).mono ?_
  rintro e w2 ⟨vw, rfl, kw_2, hb2⟩
  have n2 := hb2.size
  have B2 := B1.trans (hb2.mono (by omega))
  have ka_2 := ka_1.keep (belowSame hb2 (by omega))
  go_wp2_with fail
  refine (toChordS_any _ _ _ (HA.out.later B2) hn).mono ?_
  rintro e w3 ⟨vc, rfl, kc_3, hb3⟩
  have n3 := hb3.size
  have B3 := B2.trans (hb3.mono (by omega))
  have ka_3 := ka_2.keep (belowSame hb3 (by omega))
  have kw_3 := kw_2.keep (belowSame hb3 (by omega))
  go_wp2_with fail
  refine (HI.out _ _ _ _ kc_3 (by omega)).mono ?_
  rintro e w4 ⟨vg, rfl, kg_4, hb4⟩
  have n4 := hb4.size
  have B4 := B3.trans (hb4.mono (by omega))
  have ka_4 := ka_3.keep (belowSame hb4 (by omega))
  have kw_4 := kw_3.keep (belowSame hb4 (by omega))
  have kc_4 := kc_3.keep (belowSame hb4 (by omega))
  go_wp2_with fail
  refine (eqIntS_in _ _ x _ _ _ _ _ _ kg_4 kw_4).mono ?_
  rintro e w5 ⟨rfl, hb5⟩
  have n5 := hb5.size
  have B5 := B4.trans (hb5.mono (by omega))
  have ka_5 := ka_4.keep (belowSame hb5 (by omega))
  have kw_5 := kw_4.keep (belowSame hb5 (by omega))
  have kc_5 := kc_4.keep (belowSame hb5 (by omega))
  have kg_5 := kg_4.keep (belowSame hb5 (by omega))
  go_wp2_with fail
  refine (toChordS_any _ _ _ (HA.out.later B5) hn).mono ?_
  rintro e w6 ⟨vd, rfl, kd_6, hb6⟩
  have n6 := hb6.size
  have B6 := B5.trans (hb6.mono (by omega))
  have ka_6 := ka_5.keep (belowSame hb6 (by omega))
  have kw_6 := kw_5.keep (belowSame hb6 (by omega))
  have kc_6 := kc_5.keep (belowSame hb6 (by omega))
  have kg_6 := kg_5.keep (belowSame hb6 (by omega))
  go_wp2_with fail
  refine (eqChordS_in _ _ _ _ _ _ _ _ _ kc_6 kd_6).mono ?_
  rintro e w7 ⟨rfl, hb7⟩
  have n7 := hb7.size
  have B7 := B6.trans (hb7.mono (by omega))
  have ka_7 := ka_6.keep (belowSame hb7 (by omega))
  have kw_7 := kw_6.keep (belowSame hb7 (by omega))
  have kc_7 := kc_6.keep (belowSame hb7 (by omega))
  have kg_7 := kg_6.keep (belowSame hb7 (by omega))
  have kd_7 := kd_6.keep (belowSame hb7 (by omega))
  go_wp2_with fail
  refine (markChordS_in _ _ 1 _ _ _ _ kc_7 (by omega) (by omega) (by omega)).mono ?_
  rintro e w8 ⟨rfl, mc_8, o8⟩
  have n8 := o8.size
  have B8 := B7.trans (o8.below (C := w.heap.size) (by omega) (by omega))
  have ka_8 := ka_7.keep (o8.same_in (by omega) (by omega))
  have kw_8 := kw_7.keep (o8.same_in (by omega) (by omega))
  have kg_8 := kg_7.keep (o8.same_in (by omega) (by omega))
  have kd_8 := kd_7.keep (o8.same_in (by omega) (by omega))
  have kc_8 := mc_8
  go_wp2_with fail
  refine (eqIntS_in _ _ x _ _ _ _ _ _ kg_8 kw_8).mono ?_
  rintro e w9 ⟨rfl, hb9⟩
  have n9 := hb9.size
  have B9 := B8.trans (hb9.mono (by omega))
  have ka_9 := ka_8.keep (belowSame hb9 (by omega))
  have kw_9 := kw_8.keep (belowSame hb9 (by omega))
  have kc_9 := kc_8.keep (belowSame hb9 (by omega))
  have kg_9 := kg_8.keep (belowSame hb9 (by omega))
  have kd_9 := kd_8.keep (belowSame hb9 (by omega))
  go_wp2_with fail
  refine (markIntS_in _ x 1 _ _ _ _ kg_9 (by omega) (by omega) (by omega)).mono ?_
  rintro e w10 ⟨rfl, mg_10, o10⟩
  have n10 := o10.size
  have B10 := B9.trans (o10.below (C := w.heap.size) (by omega) (by omega))
  have ka_10 := ka_9.keep (o10.same_in (by omega) (by omega))
  have kw_10 := kw_9.keep (o10.same_in (by omega) (by omega))
  have kc_10 := kc_9.keep (o10.same_in (by omega) (by omega))
  have kd_10 := kd_9.keep (o10.same_in (by omega) (by omega))
  have kg_10 := mg_10
  go_wp2_with fail
  refine (heldIntS_in _ 1 x.length _ _ _ _ kg_10 (by omega) (by omega) (by omega)).mono ?_
  rintro e w11 ⟨rfl, hb11⟩
  have n11 := hb11.size
  have B11 := B10.trans (hb11.mono (by omega))
  have ka_11 := ka_10.keep (belowSame hb11 (by omega))
  have kw_11 := kw_10.keep (belowSame hb11 (by omega))
  have kc_11 := kc_10.keep (belowSame hb11 (by omega))
  have kg_11 := kg_10.keep (belowSame hb11 (by omega))
  have kd_11 := kd_10.keep (belowSame hb11 (by omega))
  go_wp2_with fail
  refine (toChordS_any _ _ _ (HA.out.later B11) hn).mono ?_
  rintro e w12 ⟨ve, rfl, ke_12, hb12⟩
  have n12 := hb12.size
  have B12 := B11.trans (hb12.mono (by omega))
  have ka_12 := ka_11.keep (belowSame hb12 (by omega))
  have kw_12 := kw_11.keep (belowSame hb12 (by omega))
  have kc_12 := kc_11.keep (belowSame hb12 (by omega))
  have kg_12 := kg_11.keep (belowSame hb12 (by omega))
  have kd_12 := kd_11.keep (belowSame hb12 (by omega))
  go_wp2_with fail
  refine (HI.out _ _ _ _ ke_12 (by omega)).mono ?_
  rintro e w13 ⟨vh, rfl, kh_13, hb13⟩
  have n13 := hb13.size
  have B13 := B12.trans (hb13.mono (by omega))
  have ka_13 := ka_12.keep (belowSame hb13 (by omega))
  have kw_13 := kw_12.keep (belowSame hb13 (by omega))
  have kc_13 := kc_12.keep (belowSame hb13 (by omega))
  have kg_13 := kg_12.keep (belowSame hb13 (by omega))
  have kd_13 := kd_12.keep (belowSame hb13 (by omega))
  have ke_13 := ke_12.keep (belowSame hb13 (by omega))
  go_wp2_with fail
  refine (eqIntS_in _ _ x _ _ _ _ _ _ kh_13 kw_13).mono ?_
  rintro e w14 ⟨rfl, hb14⟩
  have n14 := hb14.size
  have B14 := B13.trans (hb14.mono (by omega))
  have ka_14 := ka_13.keep (belowSame hb14 (by omega))
  have kw_14 := kw_13.keep (belowSame hb14 (by omega))
  have kc_14 := kc_13.keep (belowSame hb14 (by omega))
  have kg_14 := kg_13.keep (belowSame hb14 (by omega))
  have kd_14 := kd_13.keep (belowSame hb14 (by omega))
  have ke_14 := ke_13.keep (belowSame hb14 (by omega))
  have kh_14 := kh_13.keep (belowSame hb14 (by omega))
  go_wp2_with fail
  refine (heldIntS_in _ 1 x.length _ _ _ _ kg_14 (by omega) (by omega) (by omega)).mono ?_
  rintro e w15 ⟨rfl, hb15⟩
  have n15 := hb15.size
  have B15 := B14.trans (hb15.mono (by omega))
  have ka_15 := ka_14.keep (belowSame hb15 (by omega))
  have kw_15 := kw_14.keep (belowSame hb15 (by omega))
  have kc_15 := kc_14.keep (belowSame hb15 (by omega))
  have kg_15 := kg_14.keep (belowSame hb15 (by omega))
  have kd_15 := kd_14.keep (belowSame hb15 (by omega))
  have ke_15 := ke_14.keep (belowSame hb15 (by omega))
  have kh_15 := kh_14.keep (belowSame hb15 (by omega))
  go_wp2_with fail
  go_ret
  exact ⟨rfl, B15⟩

set_option maxHeartbeats 400000 in
theorem long_EarsOf (p : Int) (v : Value) (xs : List (Int × Int)) (w : World) (hA : ArgP w v xs) (hn : ¬ xs.length ≤ 1048576) :
    Calls Try.prog 13 #[.int .i64 p, v] w fun e w' => e = .returned (.bool true) ∧ Below w.heap.size w w' := by
  obtain ⟨a0, cap, a, rfl, _, hm, _⟩ := hA
  go_enter Try.func13, Try.ntmps13
  go_wp2_with fail
  refine (szChordS_no _ _ _ _ (by omega) hm).mono ?_
  rintro e w0 ⟨rfl, rfl⟩
  go_wp2_with fail
  go_ret
  exact ⟨rfl, by go_grown⟩

theorem walk_EarsOf (p : Int) (v : Value) (xs : List (Int × Int)) (w : World) (_ : (Lit.int .i64 p).wf = true) (hA : ArgP w v xs) :
    Calls Try.prog 13 #[.int .i64 p, v] w fun e w' => e = .returned (.bool true) ∧ Below w.heap.size w w' := by
  by_cases hn : xs.length ≤ 1048576
  · by_cases hg : goodC p xs
    · cases ht : triB p xs with
      | true =>
        obtain ⟨n, rfl⟩ := Int.eq_ofNat_of_zero_le (show 0 ≤ p by have := hg.1; omega)
        have hb := selT_length (earB xs) n
        have hp := hg.1
        exact core_EarsOf _ v xs (selT (earB xs) n) true w hA hn (by omega) (fun W u B T h hT => by obtain ⟨a0, cap, g0, rfl, _⟩ := h.pairs.view; exact sEars_yes n a0 cap xs B T W h hT hg ht) (fun W u B T h hT => by obtain ⟨a0, cap, g0, rfl, _⟩ := h.pairs.view; exact iEars_yes n a0 cap xs B T W h hT hg ht)
      | false => exact core_EarsOf p v xs [] false w hA hn (by simp) (fun W u B T h hT => by obtain ⟨a0, cap, g0, rfl, _⟩ := h.pairs.view; exact sEars_not p a0 cap xs B T W h hT hg ht) (fun W u B T h hT => by obtain ⟨a0, cap, g0, rfl, _⟩ := h.pairs.view; exact iEars_not p a0 cap xs B T W h hT hg ht)
    · exact core_EarsOf p v xs [] false w hA hn (by simp) (fun W u B T h hT => by obtain ⟨a0, cap, g0, rfl, _⟩ := h.pairs.view; exact sEars_bad p a0 cap xs B T W h hT hg) (fun W u B T h hT => by obtain ⟨a0, cap, g0, rfl, _⟩ := h.pairs.view; exact iEars_bad p a0 cap xs B T W h hT hg)
  · exact long_EarsOf p v xs w hA hn
end Go.Proofs.Ytmfbbbnenngehaa
