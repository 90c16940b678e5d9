/- The factors with the greatest order: by the program and by the model. -/
import Derived.Test.YtincoaebdmikbaaTD
import Derived.Test.YtincoaebdmikbaaTJ
import Derived.Test.YtincoaebdmikbaaTM
import Derived.Test.YtincoaebdmikbaaB8
namespace Go.Proofs.Ytincoaebdmikbaa
open Go.RowKit
set_option linter.unusedVariables false

theorem zeros60o (p : Nat) : ((#[.int .i64 0, .int .i64 0, .int .i64 0, .int .i64 0, .int .i64 0, .int .i64 0, .int .i64 0, .int .i64 0, .int .i64 0, .int .i64 0, .int .i64 0, .int .i64 0, .int .i64 0, .int .i64 0, .int .i64 0, .int .i64 0, .int .i64 0, .int .i64 0, .int .i64 0, .int .i64 0, .int .i64 0, .int .i64 0, .int .i64 0, .int .i64 0, .int .i64 0, .int .i64 0, .int .i64 0, .int .i64 0, .int .i64 0, .int .i64 0, .int .i64 0, .int .i64 0, .int .i64 0, .int .i64 0, .int .i64 0, .int .i64 0, .int .i64 0, .int .i64 0, .int .i64 0, .int .i64 0, .int .i64 0, .int .i64 0, .int .i64 0, .int .i64 0, .int .i64 0, .int .i64 0, .int .i64 0, .int .i64 0, .int .i64 0, .int .i64 0, .int .i64 0, .int .i64 0, .int .i64 0, .int .i64 0, .int .i64 0, .int .i64 0, .int .i64 0, .int .i64 0, .int .i64 0, .int .i64 0] : Array Value)) = intCells (ordL p 0) := by rw [ordL_zero]; rfl

set_option maxHeartbeats 400000 in
theorem longFn_any (x k m g gl : Nat) (b : Bool) (w : World) (hc : w.cell? ⟨g, k, none⟩ = some (.int .i64 x)) (hq : w.cell? ⟨gl, 0, none⟩ = some (.int .i64 m)) (hk : k < 60) (hb : (x == m) = b) :
    Calls Try.prog 65 #[.int .i64 k, .pointer (some ⟨g, 0, none⟩), .pointer (some ⟨gl, 0, none⟩)] w fun e w' => e = .returned (.bool b) ∧ Below w.heap.size w w' := by
  have e1 : ((x : Int) == (m : Int)) = b := by
    rw [← hb, Bool.eq_iff_iff, beq_iff_eq, beq_iff_eq]
    omega
  have k0 : 0 ≤ (k : Int) := by omega
  have k1 : (k : Int) < 60 := by omega
  clear hb
  go_enter Try.func65, Try.ntmps65
  cases b
  all_goals
    go_wp2
    go_quiet (fail)
    go_wp2
    go_ret
    exact ⟨rfl, by first | exact bdn (Below.refl _ _) _ | go_grown⟩

set_option maxHeartbeats 1000000 in
theorem where_long (p : Nat) (m g gl : Nat) (c : Nat → Bool) (w : World) (h : 3 ≤ p ∧ p ≤ 60) (hr : ArrAt 45 w g (ordL p p)) (hq : w.cell? ⟨gl, 0, none⟩ = some (.int .i64 m)) (hcd : ∀ k, k < p → (ordT p k == m) = c k) :
    Calls Try.prog 53 #[.int .i64 p, .func (.func 65) #[] #[.pointer (some ⟨g, 0, none⟩), .pointer (some ⟨gl, 0, none⟩)]] w (GivesT w (selT c p)) := by
  have HCD := Lib.hid hcd
  have HR := Lib.hid hr
  have HQ := Lib.hid hq
  clear hcd hr hq
  go_enter Try.func53, Try.ntmps53
  go_wp2
  go_loopw [5, 8] (fun u i wr => ∃ k : Nat, k ≤ p ∧ i = .int .i64 k ∧ Ints wr w.heap.size 3 u (selT c k) ∧ Below w.heap.size w wr) (fun _ i _ => p - (intOf i).toNat)
  case atStart => exact ⟨0, by omega, rfl, World.ownsRow_nil _ _ _ _, Below.refl _ _⟩
  case round =>
    obtain ⟨k, hk, rfl, hI, hB⟩ := hrel
    have HI := Lib.hid hI
    have hz := hB.size
    clear hI
    by_cases hlt : k < p
    · have hlen := selT_length c k
      have HR2 := Lib.hid (HR.out.below hB HR.out.lt)
      have HQ2 := Lib.hid ((hB.cell (p := ⟨gl, 0, none⟩) (World.block_lt_of_cell? w _ HQ.out)).trans HQ.out)
      cases hcb : c k with
      | true =>
        have HS := Lib.hid (selT_yes c k hcb)
        have HCB := Lib.hid hcb
        clear hcb
        go_wp2_with (first
          | (go_at_call 65; (refine (longFn_any (ordT p k) k m g gl true _ (by rw [← ordL_get p p k hlt (by omega)]; exact HR2.out.cell k (by rw [ordL_length]; omega)) HQ2.out (by omega) ((HCD.out k hlt).trans HCB.out)).mono ?_); rintro e w1 ⟨rfl, hb1⟩; have HI1 := Lib.hid (HI.out.later hb1); have hB1 := hB.trans (hb1.mono hz); have hz1 := hB1.size)
          | (at_builtin; refine wpList_append_int rfl _ _ 27 rfl (w.heap.size) 3 Try.underlying27 info_int _ _ rfl HI1.out (k : Int) rfl (by omega) (by omega) ?_; intro v' w' hI' hg'; have hB' := HI1.out.below hB1 hz1 hg'; rw [HS.out] at hI'; have HI' := Lib.hid hI'; clear hI'))
        go_roundw
        case rel => exact ⟨k + 1, by omega, by go_num, HI'.out, hB'⟩
        case measure => simp [intOf]; omega
      | false =>
        have HS := Lib.hid (selT_no c k hcb)
        have HCB := Lib.hid hcb
        clear hcb
        go_wp2_with (first
          | (go_at_call 65; (refine (longFn_any (ordT p k) k m g gl false _ (by rw [← ordL_get p p k hlt (by omega)]; exact HR2.out.cell k (by rw [ordL_length]; omega)) HQ2.out (by omega) ((HCD.out k hlt).trans HCB.out)).mono ?_); rintro e w1 ⟨rfl, hb1⟩; have HI1 := Lib.hid (HI.out.later hb1); have hB1 := hB.trans (hb1.mono hz)))
        go_roundw
        case rel => exact ⟨k + 1, by omega, by go_num, by rw [← HS.out]; exact HI1.out, hB1⟩
        case measure => simp [intOf]; omega
    · obtain rfl : k = p := by omega
      go_wp2
      go_ret
      exact ⟨_, rfl, HI.out, hB⟩

/-- What LongFactors gives. -/
def GivesL (w : World) (xs : List Int) (n : Int) (b : Bool) (e : Ending) (w' : World) : Prop := ∃ v, e = .returned (.tuple #[v, .int .i64 n, .bool b]) ∧ IntsIn 3 w' w.heap.size w'.heap.size v xs ∧ Below w.heap.size w w'

theorem orderAny (p f : Nat) (w : World) (h : 3 ≤ p ∧ p ≤ 60) (hf : f < p) :
    Calls Try.prog 35 #[.int .i64 p, .int .i64 f] w fun e w' => ∃ b, e = .returned (.tuple #[.int .i64 (ordT p f : Nat), .bool b]) ∧ Below w.heap.size w w' := by
  by_cases hg : Nat.gcd p f = 1
  · exact (iOrder_yes p f w h hf hg).mono fun _ _ ⟨he, hb⟩ => ⟨true, he, hb⟩
  · refine (iOrder_not p f w h hf hg).mono fun _ _ ⟨he, hb⟩ => ⟨false, ?_, hb⟩
    rw [(ord_none p f h hf hg).1]
    exact he

set_option maxHeartbeats 2000000 in
set_option maxRecDepth 100000 in
theorem iLong_yes (p m : Nat) (c : Nat → Bool) (w : World) (h : 3 ≤ p ∧ p ≤ 60) (hm : longM p p = m) (hcd : ∀ k, k < p → (ordT p k == m) = c k) :
    Calls Try.prog 39 #[.int .i64 p] w (GivesL w (selT c p) (m : Nat) true) := by
  have HM := Lib.hid hm.symm
  have HCD := Lib.hid hcd
  clear hm hcd
  have p0 : 0 ≤ (p : Int) := by omega
  have p1 : (p : Int) ≤ 60 := by omega
  have HZ := Lib.hid (zeros60o p)
  go_enter Try.func39, Try.ntmps39
  go_wp2_with (first | (go_at_call 59; (with_reducible refine (isPointCount_yes _ _ (by omega)).mono ?_); rintro e w1 ⟨rfl, rfl⟩))
  rw [HZ.out]
  go_loopw [12] (fun u wr => ∃ k : Nat, k ≤ p ∧ u = .int .i64 k ∧ Hid (ArrAt 45 wr w.heap.size (ordL p k)) ∧ Below w.heap.size w wr ∧ w.heap.size < wr.heap.size) (fun u _ => p - (intOf u).toNat)
  case atStart => exact ⟨0, by omega, rfl, Lib.hid (ArrAt.new _ w _), by go_grown, by simp⟩
  case round =>
    obtain ⟨k, hk, rfl, HR, hB, hz⟩ := hrel
    by_cases hlt : k < p
    · have k0 : (k : Int) < 60 := by omega
      obtain ⟨x, hx⟩ : ∃ x, x = ordT p k := ⟨_, rfl⟩
      have HX := Lib.hid hx
      clear hx
      go_wp2_with (first
        | (go_at_call 35; (with_reducible refine (orderAny p k _ h hlt).mono ?_); rw [← HX.out]; rintro e w1 ⟨b, rfl, hb⟩; have HR1 := HR.out.keep hb; have cc := HR1.cell k (by rw [ordL_length]; omega); have ff := HR1.frozen k; have hB1 := hB.trans (hb.mono (by omega)); have hz1 := hb.size; have HN : Hid (ArrAt 45 (w1.setCell ⟨w.heap.size, k, none⟩ (.int .i64 (x : Int))) w.heap.size (ordL p (k + 1))) := Lib.hid (by rw [HX.out, ← ordL_set]; exact HR1.stored k _)))
      go_roundw
      case rel => exact ⟨k + 1, by omega, by go_num, HN, hB1.setCell (by simp) _, by simp; omega⟩
      case measure => simp [intOf]; omega
    · obtain rfl : k = p := by omega
      have HC : Hid (∀ i, i < k → wr.cell? ⟨w.heap.size, i, none⟩ = some (.int .i64 (((ordL k k).take k).getD i 0))) := Lib.hid (fun i hi => by
        rw [List.getD, List.getElem?_take, if_pos hi, ← List.getD]
        exact HR.out.cell i (by rw [ordL_length]; omega))
      have hG : ∀ i, i < k → ((ordL k k).take k).getD i 0 = ((ordT k i : Nat) : Int) := fun i hi => by
        rw [List.getD, List.getElem?_take, if_pos hi, ← List.getD, ordL_get k k i hi (by omega)]
      have HG := Lib.hid hG
      clear hG
      go_wp2_with (first
        | (go_at_call 64; (refine (max_any w.heap.size k 60 ((ordL k k).take k) (m : Int) _ (by rw [List.length_take, ordL_length]; omega) (by omega) (by omega) HC.out (fun i hi => by rw [HG.out i hi, HM.out]; have := longM_ge k k i hi; omega) (by rw [HM.out]; obtain ⟨i, hi, e⟩ := longM_hit k k (by omega); exact ⟨i, hi, by rw [HG.out i hi, e]⟩)).mono ?_); rintro e w1 ⟨rfl, hb⟩; have HR1 := Lib.hid (HR.out.keep hb); have hB1 := hB.trans (hb.mono (by omega)); have hz1 := hb.size))
      obtain ⟨wx, hwx⟩ : ∃ wx, wx = w1.alloc (.cells #[.int .i64 (m : Int)] 3) := ⟨_, rfl⟩
      have HRX : Hid (ArrAt 45 wx w.heap.size (ordL k k)) := Lib.hid (by rw [hwx]; exact HR1.out.alloc _)
      have HQX : Hid (wx.cell? ⟨w1.heap.size, 0, none⟩ = some (.int .i64 (m : Int))) := Lib.hid (by rw [hwx]; go_simp)
      have hBX : Below w.heap.size w wx := by rw [hwx]; exact hB1.alloc (by omega) _
      have hzX := hBX.size
      rw [← hwx]
      clear hwx hB1 hB
      have cq := HQX.out
      go_region_held3 (fun w' => w'.cell? ⟨w1.heap.size, 0, none⟩ = some (.int .i64 (m : Int))) (first | assumption | exact HQX.out | go_keep)
        (first | (go_at_call 53; (refine (where_long k m w.heap.size w1.heap.size c _ h (by exact HRX.out) (by exact HQX.out) HCD.out).mono ?_); rintro e w2 ⟨v, rfl, hI, hb2⟩; have c2 := cellB hb2 (b := w1.heap.size) (o := 0) (x := .int .i64 (m : Int)) (by exact HQX.out); have HB2 := Lib.hid (show Below wx.heap.size wx w2 from Below.trans (by go_grown) (hb2.mono (by first | (simp; done) | omega | (simp; omega)))); have HI2 := Lib.hid hI; clear hb2 hI))
      go_wp2
      go_ret3
      exact ⟨_, rfl, ⟨HI2.out.mono (by simp; omega), fun k hk => (HI2.out.own k hk).2⟩, hBX.trans (HB2.out.mono hzX)⟩

set_option maxHeartbeats 400000 in
theorem iLong_no (p : Int) (w : World) (h : ¬ (3 ≤ p ∧ p ≤ 60)) :
    Calls Try.prog 39 #[.int .i64 p] w (GivesL w [] 0 false) := by
  go_enter Try.func39, Try.ntmps39
  go_wp2_with (first | (go_at_call 59; (with_reducible refine (isPointCount_no _ _ h).mono ?_); rintro e w1 ⟨rfl, rfl⟩))
  go_ret3
  exact ⟨_, rfl, IntsIn.nil _ _ _ _, Below.refl _ _⟩

set_option maxHeartbeats 400000 in
theorem sLong_no (p : Int) (w : World) (h : ¬ (3 ≤ p ∧ p ≤ 60)) :
    Calls Try.prog 38 #[.int .i64 p] w (GivesL w [] 0 false) := by
  go_enter Try.func38, Try.ntmps38
  go_wp2_with (first | (go_at_call 58; (with_reducible refine (srPoints_no _ _ h).mono ?_); rintro e w1 ⟨rfl, rfl⟩))
  go_ret3
  exact ⟨_, rfl, IntsIn.nil _ _ _ _, Below.refl _ _⟩

set_option maxHeartbeats 2000000 in
theorem sLong_yes (p : Nat) (w : World) (h : 3 ≤ p ∧ p ≤ 60) :
    Calls Try.prog 38 #[.int .i64 p] w (GivesL w (longL p p) (longM p p : Nat) true) := by
  have p0 : 0 ≤ (p : Int) := by omega
  have p1 : (p : Int) ≤ 60 := by omega
  have H1 := Lib.hid (longL_one p h)
  go_enter Try.func38, Try.ntmps38
  go_wp2_with (first | (go_at_call 58; (with_reducible refine (srPoints_yes _ _ (by omega)).mono ?_); rintro e w1 ⟨rfl, rfl⟩))
  go_loopw [5, 6, 7] (fun a u i wr => ∃ (k d : Nat) (xs : List Int), 1 ≤ k ∧ k ≤ p ∧ i = .int .i64 k ∧ a = .int .i64 d ∧ Hid (d = longM p k) ∧ Hid (xs = longL p k) ∧ Ints wr w.heap.size 3 u xs ∧ Below w.heap.size w wr) (fun _ _ i _ => p - (intOf i).toNat)
  case atStart => exact ⟨1, 0, [], by omega, by omega, rfl, rfl, Lib.hid H1.out.2.symm, Lib.hid H1.out.1.symm, World.ownsRow_nil _ _ _ _, Below.refl _ _⟩
  case round =>
    obtain ⟨k, d, xs, hk0, hk, rfl, rfl, HD, HXS, hI, hB⟩ := hrel
    have HI := Lib.hid hI
    have hz := hB.size
    have hlen : xs.length ≤ k := by rw [HXS.out]; exact longL_length p k
    clear hI
    by_cases hlt : k < p
    · by_cases hg : Nat.gcd p k = 1
      · have HG := Lib.hid hg
        have HBT := Lib.hid (show (Nat.gcd p k == 1) = true by rw [hg]; rfl)
        have hn1 := (ord_all p k h hlt hg).1
        obtain ⟨n, hn⟩ : ∃ n, n = ordT p k := ⟨_, rfl⟩
        rw [← hn] at hn1
        have HN := Lib.hid hn
        clear hg hn
        rcases Nat.lt_trichotomy d n with hc | hc | hc
        · have HL := Lib.hid (longL_more p k (by have := HD.out; have := HN.out; omega))
          go_wp2_with (first
            | (go_at_call 61; (with_reducible refine (taUndone_any p k true _ h hlt HBT.out).mono ?_); rintro e w1 ⟨rfl, hb1⟩)
            | (go_at_call 63; (with_reducible refine (taOrder_any p k _ h hlt HG.out).mono ?_); rw [← HN.out]; rintro e w2 ⟨rfl, hb2⟩; have hB2 := (hB.trans (hb1.mono hz)).trans (hb2.mono (Nat.le_trans hz hb1.size)); have hz2 := hB2.size; have HNIL := Lib.hid (show Ints w2 w.heap.size 3 (.slice none 0 0) [] from World.ownsRow_nil _ _ _ _); clear hb1 hb2)
            | (at_builtin; refine wpList_append_int rfl _ _ 27 rfl (w.heap.size) 3 Try.underlying27 info_int _ [] rfl HNIL.out (k : Int) rfl (by simp) (by omega) ?_; intro v' w' hI' hg'; have hB' := HNIL.out.below hB2 hz2 hg'; have HI' := Lib.hid hI'; clear hI'))
          go_roundw
          case rel => exact ⟨k + 1, n, [(k : Int)], by omega, by omega, by go_num, rfl, Lib.hid (by rw [HL.out.2, HN.out]), Lib.hid HL.out.1.symm, HI'.out, hB'⟩
          case measure => simp [intOf]; omega
        · subst hc
          have HL := Lib.hid (longL_same p k (by rw [← HN.out, HD.out]) (by have := HN.out; omega))
          go_wp2_with (first
            | (go_at_call 61; (with_reducible refine (taUndone_any p k true _ h hlt HBT.out).mono ?_); rintro e w1 ⟨rfl, hb1⟩)
            | (go_at_call 63; (with_reducible refine (taOrder_any p k _ h hlt HG.out).mono ?_); rw [← HN.out]; rintro e w2 ⟨rfl, hb2⟩; have hB2 := (hB.trans (hb1.mono hz)).trans (hb2.mono (Nat.le_trans hz hb1.size)); have hz2 := hB2.size; have HI2 := Lib.hid ((HI.out.later hb1).later hb2); clear hb1 hb2)
            | (at_builtin; refine wpList_append_int rfl _ _ 27 rfl (w.heap.size) 3 Try.underlying27 info_int _ _ rfl HI2.out (k : Int) rfl (by omega) (by omega) ?_; intro v' w' hI' hg'; have hB' := HI2.out.below hB2 hz2 hg'; have HI' := Lib.hid hI'; clear hI'))
          go_roundw
          case rel => exact ⟨k + 1, d, xs ++ [(k : Int)], by omega, by omega, by go_num, rfl, Lib.hid (by rw [HL.out.2]; exact HD.out), Lib.hid (by rw [HL.out.1, HXS.out]), HI'.out, hB'⟩
          case measure => simp [intOf]; omega
        · have HL := Lib.hid (longL_less p k (by have := HD.out; have := HN.out; omega))
          go_wp2_with (first
            | (go_at_call 61; (with_reducible refine (taUndone_any p k true _ h hlt HBT.out).mono ?_); rintro e w1 ⟨rfl, hb1⟩)
            | (go_at_call 63; (with_reducible refine (taOrder_any p k _ h hlt HG.out).mono ?_); rw [← HN.out]; rintro e w2 ⟨rfl, hb2⟩; have hB2 := (hB.trans (hb1.mono hz)).trans (hb2.mono (Nat.le_trans hz hb1.size)); have hz2 := hB2.size; have HI2 := Lib.hid ((HI.out.later hb1).later hb2); clear hb1 hb2))
          go_roundw
          case rel => exact ⟨k + 1, d, xs, by omega, by omega, by go_num, rfl, Lib.hid (by rw [HL.out.2]; exact HD.out), Lib.hid (by rw [HL.out.1]; exact HXS.out), HI2.out, hB2⟩
          case measure => simp [intOf]; omega
      · have HBT := Lib.hid (show (Nat.gcd p k == 1) = false from beq_eq_false_iff_ne.2 hg)
        have HL := Lib.hid (longL_skip p k (ord_none p k h hlt hg).1)
        clear hg
        go_wp2_with (first
          | (go_at_call 61; (with_reducible refine (taUndone_any p k false _ h hlt HBT.out).mono ?_); rintro e w1 ⟨rfl, hb1⟩; have hB1 := hB.trans (hb1.mono hz); have HI1 := HI.out.later hb1))
        go_roundw
        case rel => exact ⟨k + 1, d, xs, by omega, by omega, by go_num, rfl, Lib.hid (by rw [HL.out.2]; exact HD.out), Lib.hid (by rw [HL.out.1]; exact HXS.out), HI1, hB1⟩
        case measure => simp [intOf]; omega
    · obtain rfl : k = p := by omega
      go_wp2
      go_ret3
      exact ⟨_, by rw [← HD.out]; rfl, ⟨by rw [← HXS.out]; exact HI.out, fun k hk => (HI.out.own k hk).2⟩, hB⟩

end Go.Proofs.Ytincoaebdmikbaa
