/- NeedlessClues: both sides, the law. -/
import Derived.Test.YtbgcbokddldmkaaDoorXE
import Derived.Test.YtbgcbokddldmkaaDoorXQ
import Derived.Test.YtbgcbokddldmkaaDoorXR
import Derived.Test.YtbgcbokddldmkaaDoorET
namespace Go.Proofs.YtbgcbokddldmkaaDoor
open Go.RowKit
set_option linter.unusedVariables false

def needL (cs : List Tri) : List Int := selT (needC cs) cs.length

set_option maxHeartbeats 1000000 in
theorem needFn (k gb gn cap : Nat) (a0 : Option Addr) (xs : List Tri) (b : Bool) (w : World) (hx : SrcT w (.slice a0 xs.length cap) xs) (hP : puzzleP xs) (hb : w.cell? ⟨gb, 0, none⟩ = some (.slice a0 xs.length cap))
    (hn : w.cell? ⟨gn, 0, none⟩ = some (.int .i64 (((solZ xs).length : Nat) : Int))) (hk : k < xs.length) (ht : needC xs k = b) :
    Calls Tryd.prog 100 #[.int .i64 k, .pointer (some ⟨gb, 0, none⟩), .pointer (some ⟨gn, 0, none⟩)] w fun e w' => e = .returned (.bool b) ∧ Below w.heap.size w w' := by
  have HX := Lib.hid hx
  have HPO := Lib.hid (hP.sub (outZ_sub xs k))
  have hl6 := hP.1
  have HK := Lib.hid hk
  obtain ⟨m1, hm1⟩ : ∃ m, (((solZ (outZ xs k)).length : Nat) : Int) = m := ⟨_, rfl⟩
  obtain ⟨m2, hm2⟩ : ∃ m, (((solZ xs).length : Nat) : Int) = m := ⟨_, rfl⟩
  have e1 : (m1 == m2) = b := by rw [← hm1, ← hm2]; exact ht
  rw [hm2] at hn
  have HM := Lib.hid hm1
  clear hx hP ht hm1 hm2
  go_enter Tryd.func100, Tryd.ntmps100
  go_wp2
  go_region_held3 (fun w' => w'.cell? ⟨gb, 0, none⟩ = some (.slice a0 xs.length cap) ∧ w'.cell? ⟨gn, 0, none⟩ = some (.int .i64 m2)) (go_keep)
    (first
      | (go_at_call 63; (refine (iWithout_any _ xs k _ (HX.out.later (by go_grown)) HK.out (by omega)).mono ?_); rintro e w1 ⟨v1, rfl, hI1, hx1⟩; (have hB1 : Below w.heap.size w w1 := Below.trans (by go_grown) (hx1.mono (by first | exact Nat.le_refl _ | (simp; done) | (simp; omega)))); have hz1 := hB1.size; (have d0 := cellB hB1 hb); (have d1 := cellB hB1 hn); (have HI1 := Lib.hid hI1); clear hI1)
      | (go_at_call 67; (refine (countFitting_any _ (outZ xs k) _ (HI1.out.1.src.later (by go_grown)) HPO.out).mono ?_); rw [HM.out]; rintro e w2 ⟨rfl, hx2⟩; (have hB2 : Below w1.heap.size w1 w2 := Below.trans (by go_grown) (hx2.mono (by first | exact Nat.le_refl _ | (simp; done) | (simp; omega)))); (have d2 := cellB hB2 d0); (have d3 := cellB hB2 d1)))
  go_wp2
  go_ret
  exact ⟨rfl, hB1.trans (hB2.mono hz1)⟩

set_option maxHeartbeats 1000000 in
theorem where_need (p : Nat) (gb gn cap : Nat) (a0 : Option Addr) (xs : List Tri) (c : Nat → Bool) (w : World) (h : p ≤ 6) (hp : p = xs.length) (hX : SrcT w (.slice a0 xs.length cap) xs) (hP : puzzleP xs) (hb : w.cell? ⟨gb, 0, none⟩ = some (.slice a0 xs.length cap)) (hn : w.cell? ⟨gn, 0, none⟩ = some (.int .i64 (((solZ xs).length : Nat) : Int))) (hcd : ∀ k, k < p → needC xs k = c k) :
    Calls Tryd.prog 99 #[.int .i64 p, .func (.func 100) #[] #[.pointer (some ⟨gb, 0, none⟩), .pointer (some ⟨gn, 0, none⟩)]] w (GivesT w (selT c p)) := by
  have HCD := Lib.hid hcd
  have HX := Lib.hid hX
  have HP := Lib.hid hP
  have HBX := Lib.hid hb
  have HNX := Lib.hid hn
  have HPM := Lib.hid hp
  clear hcd hX hP hb hn hp
  go_enter Tryd.func99, Tryd.ntmps99
  go_wp2
  go_loopw [5, 8] (fun u i wr => ∃ k : Nat, k ≤ p ∧ i = .int .i64 k ∧ Ints wr w.heap.size 3 u (selT c k) ∧ Below w.heap.size w wr) (fun _ i _ => p - (intOf i).toNat)
  case atStart => exact ⟨0, by omega, rfl, World.ownsRow_nil _ _ _ _, Below.refl _ _⟩
  case round =>
    obtain ⟨k, hk, rfl, hI, hB⟩ := hrel
    have HI := Lib.hid hI
    have hz := hB.size
    clear hI
    by_cases hlt : k < p
    · have hlen := selT_length c k
      have HB2 := Lib.hid (cellB hB HBX.out)
      have HN2 := Lib.hid (cellB hB HNX.out)
      have HX2 := Lib.hid (HX.out.later hB)
      cases hcb : c k with
      | true =>
        have HS := Lib.hid (selT_yes c k hcb)
        have HCB := Lib.hid hcb
        clear hcb
        go_wp2_with (first
          | (go_at_call 100; (refine (needFn k gb gn cap a0 xs true _ HX2.out HP.out HB2.out HN2.out (by have := HPM.out; omega) ((HCD.out k hlt).trans HCB.out)).mono ?_); rintro e w1 ⟨rfl, hb1⟩; have HI1 := Lib.hid (HI.out.later hb1); have hB1 := hB.trans (hb1.mono hz); have hz1 := hB1.size)
          | (at_builtin; refine wpList_append_int rfl _ _ 26 rfl (w.heap.size) 3 Tryd.underlying26 info_int _ _ rfl HI1.out (k : Int) rfl (by omega) (by omega) ?_; intro v' w' hI' hg'; have hB' := HI1.out.below hB1 hz1 hg'; rw [HS.out] at hI'; have HI' := Lib.hid hI'; clear hI'))
        go_roundw
        case rel => exact ⟨k + 1, by omega, by go_num, HI'.out, hB'⟩
        case measure => simp [intOf]; omega
      | false =>
        have HS := Lib.hid (selT_no c k hcb)
        have HCB := Lib.hid hcb
        clear hcb
        go_wp2_with (first
          | (go_at_call 100; (refine (needFn k gb gn cap a0 xs false _ HX2.out HP.out HB2.out HN2.out (by have := HPM.out; omega) ((HCD.out k hlt).trans HCB.out)).mono ?_); rintro e w1 ⟨rfl, hb1⟩; have HI1 := Lib.hid (HI.out.later hb1); have hB1 := hB.trans (hb1.mono hz)))
        go_roundw
        case rel => exact ⟨k + 1, by omega, by go_num, by rw [← HS.out]; exact HI1.out, hB1⟩
        case measure => simp [intOf]; omega
    · obtain rfl : k = p := by omega
      go_wp2
      go_ret
      exact ⟨_, rfl, HI.out, hB⟩

set_option maxHeartbeats 1000000 in
theorem needlessOf_any (u : Value) (xs : List Tri) (w : World) (hx : SrcT w u xs) (hP : puzzleP xs) : Calls Tryd.prog 58 #[u] w (fun e w' => ∃ v, e = .returned v ∧ IntsIn 3 w' w.heap.size w'.heap.size v (needL xs) ∧ Below w.heap.size w w') := by
  obtain ⟨a0, cap, g, off, rfl, ha, hc1, hc2, _⟩ := hx.form
  have hl6 := hP.1
  have HX := Lib.hid hx
  have HP := Lib.hid hP
  have hw := fun (W : World) (gb gn : Nat) hX hb hn => where_need xs.length gb gn cap a0 xs (needC xs) W hl6 rfl hX hP hb hn (fun _ _ => rfl)
  obtain ⟨m, hm⟩ : ∃ m, (((solZ xs).length : Nat) : Int) = m := ⟨_, rfl⟩
  rw [hm] at hw
  have HM := Lib.hid hm
  have HWH := Lib.hid hw
  clear hx hP ha hm hw
  go_enter Tryd.func58, Tryd.ntmps58
  go_wp2_with (first
    | (go_at_call 67; (refine (countFitting_any _ xs _ (HX.out.later (by go_grown)) HP.out).mono ?_); rw [HM.out]; rintro e w1 ⟨rfl, hb1⟩; (have c0 : w1.cell? ⟨w.heap.size, 0, none⟩ = some (.slice a0 xs.length cap) := cellB hb1 (by go_simp)); (have hB1 : Below w.heap.size w w1 := Below.trans (by go_grown) (hb1.mono (by first | omega | (simp; done) | (simp; omega)))); have hz1 := hB1.size; (have hzz : w.heap.size < w1.heap.size := by have := hb1.size; simp at this; omega); (have c0' := cellB ((Below.refl w1.heap.size w1).alloc (Nat.le_refl _) (.cells #[Value.int .i64 m] 3)) c0))
    | (go_at_call 99; (refine (HWH.out _ w.heap.size w1.heap.size (HX.out.later (Below.trans hB1 (by go_grown))) c0' (by go_simp)).mono ?_); rintro e w2 ⟨v, rfl, hI, hb2⟩; have hz2 := hb2.size))
  go_ret
  have hB2 : Below w1.heap.size w1 w2 := Below.trans (by go_grown) (hb2.mono (by simp))
  have hs2 : w1.heap.size ≤ w2.heap.size := hB2.size
  refine ⟨_, rfl, ⟨hI.mono (by simp; omega), fun q hq => (hI.own q hq).2⟩, hB1.trans (hB2.mono hz1)⟩

set_option maxHeartbeats 1000000 in
theorem sNeed_yes (u : Value) (xs : List Tri) (w : World) (hx : SrcT w u xs) (hP : puzzleP xs) (hW : ClueW w) : Calls Tryd.prog 15 #[.agg #[u]] w (Gives (IntsIn 3) w (needL xs) true) := by
  obtain ⟨a0, cap, g, off, rfl, ha, hc1, hc2, _⟩ := hx.form
  unfold maxLen at hc2
  have hl6 := hP.1
  have HX := Lib.hid hx
  have HP := Lib.hid hP
  have HPB := Lib.hid (show decide (puzzleP xs) = true from decide_eq_true hP)
  have hlm := solZ_length xs
  clear hx hP ha hW
  obtain ⟨mn, hmn⟩ : ∃ n, (solZ xs).length = n := ⟨_, rfl⟩
  have HMN := Lib.hid hmn
  rw [hmn] at hlm
  clear hmn
  go_enter Tryd.func15, Tryd.ntmps15
  go_wp2_with (first
    | (go_at_call 53; (refine (pzGood_any _ xs true _ (HX.out.later (by go_grown)) HPB.out).mono ?_); rintro e w1 ⟨rfl, hb1⟩; (have c0 : w1.cell? ⟨w.heap.size, 0, none⟩ = some (.slice a0 xs.length cap) := cellB hb1 (by go_simp)); (have hB1 : Below w.heap.size w w1 := Below.trans (by go_grown) (hb1.mono (by first | omega | (simp; done) | (simp; omega)))); have hz1 := hB1.size; (have hzz : w.heap.size < w1.heap.size := by have := hb1.size; simp at this; omega))
    | (go_at_call 54; go_loud ((refine (pzAll_any _ xs _ (HX.out.later hB1) HP.out).mono ?_); rintro e w2 ⟨v2, rfl, hP2, hb2⟩; (obtain ⟨a1, c1', g1, rfl, _⟩ := hP2.pairs.view); rw [HMN.out]; (have d0 := cellB hb2 c0); (have hB2 := hB1.trans (hb2.mono hz1)); have hz2 := hb2.size; clear hP2)))
  obtain ⟨n, hn⟩ : ∃ n, n = xs.length := ⟨_, rfl⟩
  have HN := Lib.hid hn
  have hn1 : n ≤ xs.length := by omega
  have hn2 : xs.length ≤ n := by omega
  clear hn
  go_loopw [4, 17] (fun v i wr => ∃ k : Nat, k ≤ n ∧ i = .int .i64 k ∧ Ints wr w2.heap.size 3 v (selT (needC xs) k) ∧ Below w2.heap.size w2 wr) (fun _ i _ => n - (intOf i).toNat)
  case atStart => exact ⟨0, by omega, rfl, World.ownsRow_nil _ _ _ _, Below.refl _ _⟩
  case round =>
    obtain ⟨k, hk, rfl, hI, hB⟩ := hrel
    have HI := Lib.hid hI
    have hz := hB.size
    have e0 := cellB hB d0
    clear hI
    by_cases hlt : k < n
    · have k0 : (k : Int) < (xs.length : Int) := by omega
      have hkx : k < xs.length := by omega
      have HK := Lib.hid hkx
      have HPO := Lib.hid (HP.out.sub (outZ_sub xs k))
      have hlen := selT_length (needC xs) k
      obtain ⟨mo, hmo⟩ : ∃ n, (solZ (outZ xs k)).length = n := ⟨_, rfl⟩
      have HMO := Lib.hid hmo
      have hlo := solZ_length (outZ xs k)
      rw [hmo] at hlo
      cases hcb : needC xs k with
      | true =>
        have e1 : (((mo : Nat) : Int) == ((mn : Nat) : Int)) = true := by rw [← HMO.out, ← HMN.out]; exact hcb
        have HS := Lib.hid (selT_yes (needC xs) k hcb)
        clear hcb hmo
        go_wp2_with (first
          | (go_at_call 55; (refine (pzWithout_any _ xs k _ (HX.out.later (hB2.trans (hB.mono (by omega)))) HK.out (by omega)).mono ?_); rintro e w3 ⟨v3, rfl, hI3, hb3⟩; (have HI3 := Lib.hid hI3); (have hz3 := hb3.size); clear hI3)
          | (go_at_call 54; (refine (pzAll_any _ (outZ xs k) _ HI3.out.1.src HPO.out).mono ?_); rintro e w4 ⟨v4, rfl, hP4, hb4⟩; (obtain ⟨a4, c4', g4, rfl, _⟩ := hP4.pairs.view); rw [HMO.out]; (have hb34 := hb3.trans (hb4.mono hz3)); (have HI1 := Lib.hid (HI.out.later hb34)); (have hB3 := hB.trans (hb34.mono hz)); have hz4 := hB3.size; clear hP4)
          | (at_builtin; refine wpList_append_int rfl _ _ 26 rfl (w2.heap.size) 3 Tryd.underlying26 info_int _ _ rfl HI1.out ((k : Int)) rfl (by omega) (by omega) ?_; intro v' w' hI' hg';  have hB' := HI1.out.below hB3 hz4 hg'; rw [HS.out] at hI'; have HI' := Lib.hid hI'; clear hI'))
        go_roundw
        case rel => exact ⟨k + 1, by omega, by go_num, HI'.out, hB'⟩
        case measure => simp [intOf]; omega
      | false =>
        have e1 : (((mo : Nat) : Int) == ((mn : Nat) : Int)) = false := by rw [← HMO.out, ← HMN.out]; exact hcb
        have HS := Lib.hid (selT_no (needC xs) k hcb)
        clear hcb hmo
        go_wp2_with (first
          | (go_at_call 55; (refine (pzWithout_any _ xs k _ (HX.out.later (hB2.trans (hB.mono (by omega)))) HK.out (by omega)).mono ?_); rintro e w3 ⟨v3, rfl, hI3, hb3⟩; (have HI3 := Lib.hid hI3); (have hz3 := hb3.size); clear hI3)
          | (go_at_call 54; (refine (pzAll_any _ (outZ xs k) _ HI3.out.1.src HPO.out).mono ?_); rintro e w4 ⟨v4, rfl, hP4, hb4⟩; (obtain ⟨a4, c4', g4, rfl, _⟩ := hP4.pairs.view); rw [HMO.out]; (have hb34 := hb3.trans (hb4.mono hz3)); (have HI1 := Lib.hid (HI.out.later hb34)); (have hB3 := hB.trans (hb34.mono hz)); have hz4 := hB3.size; clear hP4))
        go_roundw
        case rel => exact ⟨k + 1, by omega, by go_num, by rw [← HS.out]; exact HI1.out, hB3⟩
        case measure => simp [intOf]; omega
    · obtain rfl : k = n := by omega
      have k1 : ¬ (k : Int) < (xs.length : Int) := by omega
      go_wp2
      go_ret2
      have h9 := HI.out.mono (show w.heap.size ≤ w2.heap.size by omega)
      refine ⟨_, rfl, ?_, hB2.trans (hB.mono (by omega))⟩
      unfold needL
      rw [← HN.out]
      exact ⟨h9, fun q hq => (HI.out.own q hq).2⟩

set_option maxHeartbeats 400000 in
theorem told_NeedlessClues (u : Value) (xs : List Tri) (w : World) (hx : SrcT w u xs) (hP : puzzleP xs) (hW : ClueW w) : Calls Tryd.prog 57 #[.agg #[u], .func (.func 58) #[] #[]] w (Gives (IntsIn 3) w (needL xs) true) := by
  have HX := Lib.hid hx
  have HW := Lib.hid hW
  have HP := Lib.hid (show decide (puzzleP xs) = true from decide_eq_true hP)
  obtain ⟨a0, cap, g, off, rfl, _⟩ := hx.form
  clear hx hW
  go_enter Tryd.func57, Tryd.ntmps57
  go_wp2_with (first | (go_at_call 62; (refine (iIsPuzzle_any _ xs true _ (HX.out.later (by go_grown)) HP.out (HW.out.later (by go_grown))).mono ?_); rintro e w1 ⟨rfl, hb1⟩; (have c0 : w1.cell? ⟨w.heap.size, 0, none⟩ = some (.slice a0 xs.length cap) := cellB hb1 (by go_simp)); (have hB1 : Below w.heap.size w w1 := Below.trans (by go_grown) (hb1.mono (by first | omega | (simp; done) | (simp; omega)))); have hz1 := hB1.size) | (go_at_call 58; (refine (needlessOf_any _ xs _ (HX.out.later hB1) hP).mono ?_); rintro e w2 ⟨v, rfl, hI, hb2⟩))
  go_ret2
  exact ⟨_, rfl, hI.widen hz1 (Nat.le_refl _), hB1.trans (hb2.mono hz1)⟩

set_option maxHeartbeats 400000 in
theorem iNeedlessClues_yes (u : Value) (xs : List Tri) (w : World) (hx : SrcT w u xs) (hP : puzzleP xs) (hW : ClueW w) : Calls Tryd.prog 17 #[.agg #[u]] w (Gives (IntsIn 3) w (needL xs) true) := by
  have HX := Lib.hid hx
  have HW := Lib.hid hW
  have HP := Lib.hid (show decide (puzzleP xs) = true from decide_eq_true hP)
  obtain ⟨a0, cap, g, off, rfl, _⟩ := hx.form
  clear hx hW
  go_enter Tryd.func17, Tryd.ntmps17
  go_wp2_with (first | (go_at_call 57; (refine (told_NeedlessClues _ xs _ (HX.out.later (by go_grown)) hP (HW.out.later (by go_grown))).mono ?_); rintro e w1 ⟨v, rfl, hI, hb1⟩))
  go_ret2
  exact ⟨_, rfl, hI.widen (by simp) (Nat.le_refl _), Below.trans (by go_grown) (hb1.mono (by first | omega | (simp; done) | (simp; omega)))⟩

set_option maxHeartbeats 400000 in
theorem iNeedlessClues_no (u : Value) (xs : List Tri) (w : World) (hx : SrcT w u xs) (hP : ¬ puzzleP xs) (hW : ClueW w) : Calls Tryd.prog 17 #[.agg #[u]] w (Gives (IntsIn 3) w [] false) := by
  have HX := Lib.hid hx
  have HW := Lib.hid hW
  have HP := Lib.hid (show decide (puzzleP xs) = false from decide_eq_false hP)
  obtain ⟨a0, cap, g, off, rfl, _⟩ := hx.form
  clear hx hW
  go_enter Tryd.func17, Tryd.ntmps17
  go_wp2_with (first | (go_at_call 57; (refine (toldIS_no _ xs _ (HX.out.later (by go_grown)) _ hP (HW.out.later (by go_grown))).mono ?_); rintro e w1 ⟨v, rfl, hI, hb1⟩))
  go_ret2
  exact ⟨_, rfl, hI.widen (by simp) (Nat.le_refl _), Below.trans (by go_grown) (hb1.mono (by first | omega | (simp; done) | (simp; omega)))⟩

set_option maxHeartbeats 400000 in
theorem sNeedlessClues_no (u : Value) (xs : List Tri) (w : World) (hx : SrcT w u xs) (hP : ¬ puzzleP xs) (hW : ClueW w) : Calls Tryd.prog 15 #[.agg #[u]] w (Gives (IntsIn 3) w [] false) := by
  have HX := Lib.hid hx
  have HW := Lib.hid hW
  have HP := Lib.hid (show decide (puzzleP xs) = false from decide_eq_false hP)
  obtain ⟨a0, cap, g, off, rfl, _⟩ := hx.form
  clear hx hW
  go_enter Tryd.func15, Tryd.ntmps15
  go_wp2_with (first | (go_at_call 53; (refine (pzGood_any _ xs false _ (HX.out.later (by go_grown)) HP.out).mono ?_); rintro e w1 ⟨rfl, hb1⟩; (have c0 : w1.cell? ⟨w.heap.size, 0, none⟩ = some (.slice a0 xs.length cap) := cellB hb1 (by go_simp)); (have hB1 : Below w.heap.size w w1 := Below.trans (by go_grown) (hb1.mono (by first | omega | (simp; done) | (simp; omega)))); have hz1 := hB1.size))
  go_ret2
  exact ⟨_, rfl, IntsIn.nil _ _ _ _, hB1⟩

set_option maxHeartbeats 2000000 in
theorem core_NeedlessClues (v : Value) (xs : List Tri) (x : List Int) (b : Bool) (w : World) (hA : ArgT w v xs) (hW : ClueW w) (hn : xs.length ≤ 1048576) (hx : x.length ≤ 1000000)
    (hs : ∀ (W : World) (u : Value) (B T : Nat), ClueW W → TripsIn 44 W B T u xs → T ≤ W.heap.size → Calls Tryd.prog 15 #[.agg #[u]] W (Gives (IntsIn 3) W x b))
    (hi : ∀ (W : World) (u : Value) (B T : Nat), ClueW W → TripsIn 44 W B T u xs → T ≤ W.heap.size → Calls Tryd.prog 17 #[.agg #[u]] W (Gives (IntsIn 3) W x b)) :
    Calls Tryd.prog 3 #[.agg #[v]] w fun e w' => e = .returned (.bool true) ∧ Below w.heap.size w w' := by
  have hA1 := hA
  obtain ⟨a0, cap, a, rfl, _⟩ := hA1
  have HS := Lib.hid hs
  have HI := Lib.hid hi
  have HA := Lib.hid hA
  have HW := Lib.hid hW
  clear hs hi hA hW
  go_enter Tryd.func3, Tryd.ntmps3
  go_wp2_with fail
  refine (szPuzzle_yes _ _ _ _ hn).mono ?_
  rintro e w1 ⟨rfl, hx1⟩
  have hb1 : Below w.heap.size w w1 := Below.trans (by go_grown) (hx1.mono (by first | omega | (simp; done) | (simp; omega)))
  have n1 : w.heap.size + 1 ≤ w1.heap.size := by have := hx1.size; (try simp at this); omega
  have B1 : Below w.heap.size w w1 := hb1
  have zp1 : w1.cell? ⟨w.heap.size, 0, none⟩ = some (.slice a0 xs.length cap) := cellB hx1 (by go_simp)
  go_wp2_with fail
  refine (toPuzzle_any _ _ _ (HA.out.later B1) hn).mono ?_
  rintro e w2 ⟨va, rfl, ka_2, hx2⟩
  have hb2 : Below w1.heap.size w1 w2 := Below.trans (by go_grown) (hx2.mono (by first | omega | (simp; done) | (simp; omega)))
  have n2 : w1.heap.size + 0 ≤ w2.heap.size := by have := hx2.size; (try simp at this); omega
  have B2 : Below w.heap.size w w2 := B1.trans (hb2.mono (by omega))
  have zp2 := cellB hb2 zp1
  clear zp1
  obtain ⟨aa, ma, ca, hva⟩ := own_formT ka_2.1
  subst hva
  go_wp2_with fail
  refine (HS.out _ _ _ _ (HW.out.later B2) ka_2 (by first | omega | (simp; done) | (simp; omega))).mono ?_
  rintro e w3 ⟨vw, rfl, kw_3, hx3⟩
  have hb3 : Below w2.heap.size w2 w3 := Below.trans (by go_grown) (hx3.mono (by first | omega | (simp; done) | (simp; omega)))
  have n3 : w2.heap.size + 0 ≤ w3.heap.size := by have := hx3.size; (try simp at this); omega
  have B3 : Below w.heap.size w w3 := B2.trans (hb3.mono (by omega))
  have zp3 := cellB hb3 zp2
  clear zp2
  have ka_3 := ka_2.keep (belowSame hb3 (by omega))
  obtain ⟨aw, mw, cw, hvw⟩ := own_formT kw_3.1
  subst hvw
  go_wp2_with fail
  refine (toPuzzle_any _ _ _ (HA.out.later B3) hn).mono ?_
  rintro e w4 ⟨vc, rfl, kc_4, hx4⟩
  have hb4 : Below w3.heap.size w3 w4 := Below.trans (by go_grown) (hx4.mono (by first | omega | (simp; done) | (simp; omega)))
  have n4 : w3.heap.size + 0 ≤ w4.heap.size := by have := hx4.size; (try simp at this); omega
  have B4 : Below w.heap.size w w4 := B3.trans (hb4.mono (by omega))
  have zp4 := cellB hb4 zp3
  clear zp3
  have ka_4 := ka_3.keep (belowSame hb4 (by omega))
  have kw_4 := kw_3.keep (belowSame hb4 (by omega))
  obtain ⟨ac, mc, cc, hvc⟩ := own_formT kc_4.1
  subst hvc
  go_wp2_with fail
  refine (HI.out _ _ _ _ (HW.out.later (Below.trans B4 (by go_grown))) (kc_4.keep (belowSame (by go_grown) (by first | omega | (simp; done) | (simp; omega)))) (by first | omega | (simp; done) | (simp; omega))).mono ?_
  rintro e w5 ⟨vg, rfl, kg_5, hx5⟩
  simp only [World.size_alloc] at kg_5
  have hb5 : Below w4.heap.size w4 w5 := Below.trans (by go_grown) (hx5.mono (by first | omega | (simp; done) | (simp; omega)))
  have n5 : w4.heap.size + 1 ≤ w5.heap.size := by have := hx5.size; (try simp at this); omega
  have B5 : Below w.heap.size w w5 := B4.trans (hb5.mono (by omega))
  have zp5 := cellB hb5 zp4
  clear zp4
  have zc5 : w5.cell? ⟨w4.heap.size, 0, none⟩ = some (.slice ac mc cc) := cellB hx5 (by go_simp)
  have ka_5 := ka_4.keep (belowSame hb5 (by omega))
  have kw_5 := kw_4.keep (belowSame hb5 (by omega))
  have kc_5 := kc_4.keep (belowSame hb5 (by omega))
  obtain ⟨ag, mg, cg, hvg⟩ := own_formT kg_5.1
  subst hvg
  go_wp2_with fail
  refine (eqIntS_in _ _ x _ _ _ _ _ _ kg_5 kw_5).mono ?_
  rintro e w6 ⟨rfl, hx6⟩
  have hb6 : Below w5.heap.size w5 w6 := Below.trans (by go_grown) (hx6.mono (by first | omega | (simp; done) | (simp; omega)))
  have n6 : w5.heap.size + 0 ≤ w6.heap.size := by have := hx6.size; (try simp at this); omega
  have B6 : Below w.heap.size w w6 := B5.trans (hb6.mono (by omega))
  have zp6 := cellB hb6 zp5
  have zc6 := cellB hb6 zc5
  clear zp5 zc5
  have ka_6 := ka_5.keep (belowSame hb6 (by omega))
  have kw_6 := kw_5.keep (belowSame hb6 (by omega))
  have kc_6 := kc_5.keep (belowSame hb6 (by omega))
  have kg_6 := kg_5.keep (belowSame hb6 (by omega))
  go_wp2
  go_region_held3 (fun w' => w'.cell? ⟨w.heap.size, 0, none⟩ = some (.slice a0 xs.length cap) ∧ w'.cell? ⟨w4.heap.size, 0, none⟩ = some (.slice ac mc cc)) (go_keep)
    (first | (go_at_call 16; refine (toPuzzle_any _ _ _ (HA.out.later (Below.trans B6 (by go_grown))) hn).mono ?_; rintro e w7 ⟨vd, rfl, kd_7, hx7⟩; (have kd_7 := kd_7.wider (B' := w6.heap.size + 0) (by first | exact Nat.le_refl _ | (simp; done) | (simp; omega)) (Nat.le_refl _)); (have hb7 : Below w6.heap.size w6 w7 := Below.trans (by go_grown) (hx7.mono (by first | omega | (simp; done) | (simp; omega)))); (have n7 : w6.heap.size + 0 ≤ w7.heap.size := by have := hx7.size; (try simp at this); omega); (have B7 : Below w.heap.size w w7 := B6.trans (hb7.mono (by omega))); (have zp7 := cellB hb7 zp6); (have zc7 := cellB hb7 zc6); (have ka_7 := ka_6.keep (belowSame hb7 (by omega))); (have kw_7 := kw_6.keep (belowSame hb7 (by omega))); (have kc_7 := kc_6.keep (belowSame hb7 (by omega))); (have kg_7 := kg_6.keep (belowSame hb7 (by omega))); (obtain ⟨ad, md, cd, hvd⟩ := own_formT kd_7.1); subst hvd) | (go_at_call 19; refine (eqPuzzle_in _ _ _ _ _ _ _ _ _ (kc_7.keep (belowSame (by go_grown) (by first | omega | (simp; done) | (simp; omega)))) (kd_7.keep (belowSame (by go_grown) (by first | omega | (simp; done) | (simp; omega)))) (by first | omega | (simp; done) | (simp; omega)) (by first | omega | (simp; done) | (simp; omega))).mono ?_; rintro e w8 ⟨rfl, hx8⟩; (have hb8 : Below w7.heap.size w7 w8 := Below.trans (by go_grown) (hx8.mono (by first | omega | (simp; done) | (simp; omega)))); (have n8 : w7.heap.size + 0 ≤ w8.heap.size := by have := hx8.size; (try simp at this); omega); (have B8 : Below w.heap.size w w8 := B7.trans (hb8.mono (by omega))); (have zp8 := cellB hb8 zp7); (have zc8 := cellB hb8 zc7); (have ka_8 := ka_7.keep (belowSame hb8 (by omega))); (have kw_8 := kw_7.keep (belowSame hb8 (by omega))); (have kc_8 := kc_7.keep (belowSame hb8 (by omega))); (have kg_8 := kg_7.keep (belowSame hb8 (by omega))); (have kd_8 := kd_7.keep (belowSame hb8 (by omega)))))
  go_wp2_with fail
  refine (markPuzzle_in _ _ 1 _ _ _ _ kc_8 (by omega) (by omega) (by omega) (by omega)).mono ?_
  rintro e w9 ⟨rfl, kc_9, o9⟩
  have n9 := o9.size
  have B9 := B8.trans (o9.below (C := w.heap.size) (by omega) (by omega))
  have zp9 := o9.cell (by omega) zp8
  have zc9 := o9.cell (by omega) zc8
  clear zp8 zc8
  have ka_9 := ka_8.keep (o9.same_in (by omega) (by omega))
  have kw_9 := kw_8.keep (o9.same_in (by omega) (by omega))
  have kg_9 := kg_8.keep (o9.same_in (by omega) (by omega))
  have kd_9 := kd_8.keep (o9.same_in (by omega) (by omega))
  go_wp2_with fail
  refine (eqIntS_in _ _ x _ _ _ _ _ _ kg_9 kw_9).mono ?_
  rintro e w10 ⟨rfl, hx10⟩
  have hb10 : Below w9.heap.size w9 w10 := Below.trans (by go_grown) (hx10.mono (by first | omega | (simp; done) | (simp; omega)))
  have n10 : w9.heap.size + 0 ≤ w10.heap.size := by have := hx10.size; (try simp at this); omega
  have B10 : Below w.heap.size w w10 := B9.trans (hb10.mono (by omega))
  have zp10 := cellB hb10 zp9
  have zc10 := cellB hb10 zc9
  clear zp9 zc9
  have ka_10 := ka_9.keep (belowSame hb10 (by omega))
  have kw_10 := kw_9.keep (belowSame hb10 (by omega))
  have kc_10 := kc_9.keep (belowSame hb10 (by omega))
  have kg_10 := kg_9.keep (belowSame hb10 (by omega))
  have kd_10 := kd_9.keep (belowSame hb10 (by omega))
  go_wp2_with fail
  refine (markIntS_in _ x 1 _ _ _ _ kg_10 (by omega) (by omega) (by omega)).mono ?_
  rintro e w11 ⟨rfl, kg_11, o11⟩
  have n11 := o11.size
  have B11 := B10.trans (o11.below (C := w.heap.size) (by omega) (by omega))
  have zp11 := o11.cell (by omega) zp10
  have zc11 := o11.cell (by omega) zc10
  clear zp10 zc10
  have ka_11 := ka_10.keep (o11.same_in (by omega) (by omega))
  have kw_11 := kw_10.keep (o11.same_in (by omega) (by omega))
  have kc_11 := kc_10.keep (o11.same_in (by omega) (by omega))
  have kd_11 := kd_10.keep (o11.same_in (by omega) (by omega))
  go_wp2_with fail
  refine (heldIntS_in _ 1 x.length _ _ _ _ kg_11 (by omega) (by omega) (by omega)).mono ?_
  rintro e w12 ⟨rfl, hx12⟩
  have hb12 : Below w11.heap.size w11 w12 := Below.trans (by go_grown) (hx12.mono (by first | omega | (simp; done) | (simp; omega)))
  have n12 : w11.heap.size + 0 ≤ w12.heap.size := by have := hx12.size; (try simp at this); omega
  have B12 : Below w.heap.size w w12 := B11.trans (hb12.mono (by omega))
  have zp12 := cellB hb12 zp11
  have zc12 := cellB hb12 zc11
  clear zp11 zc11
  have ka_12 := ka_11.keep (belowSame hb12 (by omega))
  have kw_12 := kw_11.keep (belowSame hb12 (by omega))
  have kc_12 := kc_11.keep (belowSame hb12 (by omega))
  have kg_12 := kg_11.keep (belowSame hb12 (by omega))
  have kd_12 := kd_11.keep (belowSame hb12 (by omega))
  go_wp2_with fail
  refine (toPuzzle_any _ _ _ (HA.out.later B12) hn).mono ?_
  rintro e w13 ⟨ve, rfl, ke_13, hx13⟩
  have hb13 : Below w12.heap.size w12 w13 := Below.trans (by go_grown) (hx13.mono (by first | omega | (simp; done) | (simp; omega)))
  have n13 : w12.heap.size + 0 ≤ w13.heap.size := by have := hx13.size; (try simp at this); omega
  have B13 : Below w.heap.size w w13 := B12.trans (hb13.mono (by omega))
  have zp13 := cellB hb13 zp12
  have zc13 := cellB hb13 zc12
  clear zp12 zc12
  have ka_13 := ka_12.keep (belowSame hb13 (by omega))
  have kw_13 := kw_12.keep (belowSame hb13 (by omega))
  have kc_13 := kc_12.keep (belowSame hb13 (by omega))
  have kg_13 := kg_12.keep (belowSame hb13 (by omega))
  have kd_13 := kd_12.keep (belowSame hb13 (by omega))
  obtain ⟨ae, me, ce, hve⟩ := own_formT ke_13.1
  subst hve
  go_wp2_with fail
  refine (HI.out _ _ _ _ (HW.out.later B13) ke_13 (by first | omega | (simp; done) | (simp; omega))).mono ?_
  rintro e w14 ⟨vh, rfl, kh_14, hx14⟩
  have hb14 : Below w13.heap.size w13 w14 := Below.trans (by go_grown) (hx14.mono (by first | omega | (simp; done) | (simp; omega)))
  have n14 : w13.heap.size + 0 ≤ w14.heap.size := by have := hx14.size; (try simp at this); omega
  have B14 : Below w.heap.size w w14 := B13.trans (hb14.mono (by omega))
  have zp14 := cellB hb14 zp13
  have zc14 := cellB hb14 zc13
  clear zp13 zc13
  have ka_14 := ka_13.keep (belowSame hb14 (by omega))
  have kw_14 := kw_13.keep (belowSame hb14 (by omega))
  have kc_14 := kc_13.keep (belowSame hb14 (by omega))
  have kg_14 := kg_13.keep (belowSame hb14 (by omega))
  have kd_14 := kd_13.keep (belowSame hb14 (by omega))
  have ke_14 := ke_13.keep (belowSame hb14 (by omega))
  obtain ⟨ah, mh, ch, hvh⟩ := own_formT kh_14.1
  subst hvh
  go_wp2_with fail
  refine (eqIntS_in _ _ x _ _ _ _ _ _ kh_14 kw_14).mono ?_
  rintro e w15 ⟨rfl, hx15⟩
  have hb15 : Below w14.heap.size w14 w15 := Below.trans (by go_grown) (hx15.mono (by first | omega | (simp; done) | (simp; omega)))
  have n15 : w14.heap.size + 0 ≤ w15.heap.size := by have := hx15.size; (try simp at this); omega
  have B15 : Below w.heap.size w w15 := B14.trans (hb15.mono (by omega))
  have zp15 := cellB hb15 zp14
  have zc15 := cellB hb15 zc14
  clear zp14 zc14
  have ka_15 := ka_14.keep (belowSame hb15 (by omega))
  have kw_15 := kw_14.keep (belowSame hb15 (by omega))
  have kc_15 := kc_14.keep (belowSame hb15 (by omega))
  have kg_15 := kg_14.keep (belowSame hb15 (by omega))
  have kd_15 := kd_14.keep (belowSame hb15 (by omega))
  have ke_15 := ke_14.keep (belowSame hb15 (by omega))
  have kh_15 := kh_14.keep (belowSame hb15 (by omega))
  go_wp2_with fail
  refine (heldIntS_in _ 1 x.length _ _ _ _ kg_15 (by omega) (by omega) (by omega)).mono ?_
  rintro e w16 ⟨rfl, hx16⟩
  have hb16 : Below w15.heap.size w15 w16 := Below.trans (by go_grown) (hx16.mono (by first | omega | (simp; done) | (simp; omega)))
  have n16 : w15.heap.size + 0 ≤ w16.heap.size := by have := hx16.size; (try simp at this); omega
  have B16 : Below w.heap.size w w16 := B15.trans (hb16.mono (by omega))
  have zp16 := cellB hb16 zp15
  have zc16 := cellB hb16 zc15
  clear zp15 zc15
  have ka_16 := ka_15.keep (belowSame hb16 (by omega))
  have kw_16 := kw_15.keep (belowSame hb16 (by omega))
  have kc_16 := kc_15.keep (belowSame hb16 (by omega))
  have kg_16 := kg_15.keep (belowSame hb16 (by omega))
  have kd_16 := kd_15.keep (belowSame hb16 (by omega))
  have ke_16 := ke_15.keep (belowSame hb16 (by omega))
  have kh_16 := kh_15.keep (belowSame hb16 (by omega))
  go_wp2_with fail
  go_ret
  exact ⟨rfl, B16⟩

set_option maxHeartbeats 400000 in
theorem long_NeedlessClues (v : Value) (xs : List Tri) (w : World) (hA : ArgT w v xs) (hn : ¬ xs.length ≤ 1048576) :
    Calls Tryd.prog 3 #[.agg #[v]] w fun e w' => e = .returned (.bool true) ∧ Below w.heap.size w w' := by
  obtain ⟨a0, cap, a, rfl, _, hm, _⟩ := hA
  go_enter Tryd.func3, Tryd.ntmps3
  go_wp2_with fail
  refine (szPuzzle_no _ _ _ _ (by omega) hm).mono ?_
  rintro e w0 ⟨rfl, hb0⟩
  go_wp2_with fail
  go_ret
  exact ⟨rfl, Below.trans (by go_grown) (hb0.mono (by first | omega | (simp; done) | (simp; omega)))⟩

theorem walk_NeedlessClues (v : Value) (xs : List Tri) (w : World) (hA : ArgT w v xs) (hW : ClueW w) :
    Calls Tryd.prog 3 #[.agg #[v]] w fun e w' => e = .returned (.bool true) ∧ Below w.heap.size w w' := by
  by_cases hn : xs.length ≤ 1048576
  · by_cases hP : puzzleP xs
    · have hl6 := hP.1
      exact core_NeedlessClues v xs (needL xs) true w hA hW hn (by first | (rw [leftL_length]; omega) | (have := selT_length (needC xs) xs.length; unfold needL; omega)) (fun W u B T hw h _ => sNeed_yes u xs W h.1.src hP hw) (fun W u B T hw h _ => iNeedlessClues_yes u xs W h.1.src hP hw)
    · exact core_NeedlessClues v xs [] false w hA hW hn (by simp) (fun W u B T hw h _ => sNeedlessClues_no u xs W h.1.src hP hw) (fun W u B T hw h _ => iNeedlessClues_no u xs W h.1.src hP hw)
  · exact long_NeedlessClues v xs w hA hn

end Go.Proofs.YtbgcbokddldmkaaDoor
