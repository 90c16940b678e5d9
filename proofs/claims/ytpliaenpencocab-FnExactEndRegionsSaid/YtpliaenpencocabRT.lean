/- Neighbours among the regions: the model's list. -/
import Derived.Test.YtpliaenpencocabRS
import Derived.Test.YtpliaenpencocabRI
import Derived.Test.YtpliaenpencocabRJ
import Derived.Test.YtpliaenpencocabBA
namespace Go.Proofs.Ytpliaenpencocab
open Go.RowKit
set_option linter.unusedVariables false

/-- The neighbours i, b with b < j, and all i, b with i < k. -/
def isN (L : List (List Int)) (i b : Nat) : Bool := decide (i < b) && (comN (L.getD i []) (L.getD b []) == 2)
def rowN (L : List (List Int)) (i j : Nat) : List (List Int) := ((List.range j).filter (isN L i)).map fun (b : Nat) => [(i : Int), (b : Int)]
def allN (L : List (List Int)) (k : Nat) : List (List Int) := (List.range k).flatMap fun i => rowN L i L.length

theorem rowN_yes {L : List (List Int)} {i j : Nat} (h : isN L i j = true) : rowN L i (j + 1) = rowN L i j ++ [[(i : Int), (j : Int)]] := by
  simp [rowN, List.range_succ, List.filter_append, h]
theorem rowN_no {L : List (List Int)} {i j : Nat} (h : isN L i j = false) : rowN L i (j + 1) = rowN L i j := by
  simp [rowN, List.range_succ, List.filter_append, h]
theorem rowN_low (L : List (List Int)) (i j : Nat) (h : j ≤ i + 1) : rowN L i j = [] := by
  induction j with
  | zero => rfl
  | succ j ih =>
    rw [rowN_no (by unfold isN; rw [decide_eq_false (by omega)]; rfl), ih (by omega)]
theorem allN_succ (L : List (List Int)) (k : Nat) : allN L (k + 1) = allN L k ++ rowN L k L.length := by
  simp [allN, List.range_succ]
theorem rowN_length (L : List (List Int)) (i j : Nat) : (rowN L i j).length ≤ j := by
  unfold rowN
  rw [List.length_map]
  exact Nat.le_trans (List.length_filter_le _ _) (by simp)
theorem allN_length (L : List (List Int)) (k : Nat) : (allN L k).length ≤ k * L.length := by
  induction k with
  | zero => simp [allN]
  | succ k ih =>
    rw [allN_succ, List.length_append, Nat.succ_mul]
    have := rowN_length L k L.length
    omega

theorem com_step (A B : List Int) (m : Nat) (hm : m < B.length) : ((B.take (m + 1)).filter fun p => A.contains p).length = ((B.take m).filter fun p => A.contains p).length + (if A.contains (B.getD m 0) then 1 else 0) := by
  rw [filter_take_step _ B m hm, List.length_append]
  split <;> rfl

theorem own_form {w : World} {B : Nat} {e : TypeId} {v : Value} {n : Nat} {vs : List Value} (h : w.ownsRow B e 1 v n vs) : ∃ a m c, v = .slice a m c := by
  rcases h.2 with ⟨hv, _⟩ | ⟨g, cap, cur, hv, _⟩
  · exact ⟨none, 0, 0, hv⟩
  · exact ⟨_, _, _, hv⟩

/-- A new pair is appended. -/
theorem RowsIn.pair {wr w' : World} {B : Nat} {v v' : Value} {vs : List Value} {xss : List (List Int)} (h : RowsAt 46 3 wr B wr.heap.size v vs xss) (hB : B ≤ wr.heap.size) (a b : Int)
    (ho : w'.ownsRow B 46 1 v' (vs ++ [Value.slice (some ⟨wr.heap.size, 0, none⟩) 2 2]).length (vs ++ [Value.slice (some ⟨wr.heap.size, 0, none⟩) 2 2])) (hg : (wr.alloc (.cells #[.int .i64 a, .int .i64 b] 3)).grownBy w' v.ownBlock) :
    RowsIn 46 3 w' B w'.heap.size v' (xss ++ [[a, b]]) := by
  have hz := hg.size
  have h1 : RowsAt 46 3 (wr.alloc (.cells #[.int .i64 a, .int .i64 b] 3)) B wr.heap.size v vs xss := h.keep (belowSame (by go_grown) (Nat.le_refl _))
  have h2 : Ints (wr.alloc (.cells #[.int .i64 a, .int .i64 b] 3)) wr.heap.size 3 (.slice (some ⟨wr.heap.size, 0, none⟩) 2 2) [a, b] := Ints.boxed wr wr.heap.size 3 [a, b] (Nat.le_refl _) (by simp)
  exact ⟨_, h1.more (by decide) (T' := wr.heap.size + 1) ⟨h2, fun k hk => by simp [Value.ownBlock] at hk; omega⟩ hB (by omega) (by simpa using hz) ho hg⟩

set_option maxHeartbeats 4000000 in
theorem reNext_any (n : Nat) (u : Value) (xs : List (Int × Int)) (B T : Nat) (w : World) (h : PairsIn 67 w B T u xs) (hT : T ≤ w.heap.size) (hg : goodC n xs) (hpl : allP xs xs.length = []) :
    Calls Try.prog 41 #[.int .i64 n, u] w fun e w' => ∃ v, e = .returned v ∧ RowsIn 46 3 w' w.heap.size w'.heap.size v (allN (regL n xs) (regL n xs).length) ∧ Below w.heap.size w w' := by
  have hsm := (regL_small hg hpl).2
  have HRW := Lib.hid (regL_rows hg hpl)
  have HHR := Lib.hid (fun W hW1 hW2 => reList_gives n u xs B T W hW1 hW2 hg hpl)
  obtain ⟨L, hL⟩ : ∃ L, regL n xs = L := ⟨_, rfl⟩
  rw [hL] at hsm HRW HHR ⊢
  clear hL
  obtain ⟨a0, cap0, rfl⟩ := h.pairs.opened
  go_enter Try.func41, Try.ntmps41
  go_wp2_with (first | (go_at_call 51; (with_reducible refine (HHR.out _ h hT).mono ?_); rintro e w2 ⟨v, rfl, hI, hb2⟩; have hz2 := hb2.size; obtain ⟨ws, hR⟩ := hI; obtain ⟨ar, cr, gr, rfl, har, _, hcr, _⟩ := hR.view; have HR := Lib.hid hR; have HAR := Lib.hid har; have HCR := Lib.hid hcr; clear hR har hcr))
  go_loopw [6, 18] (fun v i wr => ∃ k : Nat, k ≤ L.length ∧ i = .int .i64 (k : Int) ∧ Hid (RowsIn 46 3 wr w2.heap.size wr.heap.size v (allN L k)) ∧ Below w2.heap.size w2 wr) (fun _ i _ => L.length - (intOf i).toNat)
  case atStart => exact ⟨0, by omega, rfl, Lib.hid (RowsIn.nil _ _ _ _ _), Below.refl _ _⟩
  case round =>
    obtain ⟨k, hk, rfl, HI, hB⟩ := hrel
    have hz := hB.size
    by_cases hlt : k < L.length
    · obtain rfl := HAR.out (by omega)
      have e0 := cellB hB (HCR.out k hlt)
      have hrow := HR.out.rows k hlt
      obtain ⟨_, hp60⟩ := HRW.out k hlt
      obtain ⟨A, hA⟩ : ∃ A, L.getD k [] = A := ⟨_, rfl⟩
      rw [hA] at hrow hp60
      obtain ⟨a2, c2, hform⟩ := hrow.1.openedR
      rw [hform] at e0 hrow
      have HROW := Lib.hid hrow
      have HAE := Lib.hid hA
      have HLO := Lib.hid (rowN_low L k (k + 1) (Nat.le_refl _))
      clear hrow hform hA
      go_wp2
      go_loopw [6, 9] (fun v b wr => ∃ j : Nat, k + 1 ≤ j ∧ j ≤ L.length ∧ b = .int .i64 (j : Int) ∧ Hid (RowsIn 46 3 wr w2.heap.size wr.heap.size v (allN L k ++ rowN L k j)) ∧ Below w2.heap.size w2 wr) (fun _ b _ => L.length - (intOf b).toNat)
      case atStart => exact ⟨k + 1, by omega, by omega, by go_num, Lib.hid (by rw [HLO.out, List.append_nil]; exact HI.out), hB⟩
      case round =>
        clear e0 HI hB hz
        obtain ⟨j, hj1, hj2, rfl, HI, hB⟩ := hrel
        obtain ⟨wo, rfl⟩ : ∃ q, q = wr := ⟨wr, rfl⟩
        have hz := hB.size
        by_cases hjl : j < L.length
        · have e1 := cellB hB (HCR.out j hjl)
          have hrowj := HR.out.rows j hjl
          obtain ⟨hq0, hq60⟩ := HRW.out j hjl
          obtain ⟨Bj, hBj⟩ : ∃ A, L.getD j [] = A := ⟨_, rfl⟩
          rw [hBj] at hrowj hq60 hq0
          obtain ⟨rv, hrv⟩ : ∃ rv, ws.getD j (Value.slice none 0 0) = rv := ⟨_, rfl⟩
          rw [hrv] at hrowj e1
          obtain ⟨a3, c3, g3, rfl, ha3, _, _, _, hc3, _⟩ := hrowj.1.view
          obtain rfl := ha3 hq0
          have HC3 := Lib.hid hc3
          have HBE := Lib.hid hBj
          have HROWA := Lib.hid (HROW.out.keep (belowSame hB (Nat.le_refl _)))
          have hj0 : (0 : Int) ≤ (j : Int) := by omega
          have hj3 : (j : Int) < (L.length : Int) := by omega
          clear hrowj ha3 hc3 hBj hrv
          go_wp2
          go_loopw [10, 36] (fun c i wr => ∃ m : Nat, m ≤ Bj.length ∧ i = .int .i64 (m : Int) ∧ c = .int .i64 ((((Bj.take m).filter fun p => A.contains p).length : Nat) : Int) ∧ Below wo.heap.size wo wr) (fun _ i _ => Bj.length - (intOf i).toNat)
          case atStart => exact ⟨0, by omega, rfl, by simp, Below.refl _ _⟩
          case round =>
            obtain ⟨m, hm, rfl, rfl, hB2⟩ := hrel
            have hz2' := hB2.size
            have hcl : ((Bj.take m).filter fun p => A.contains p).length ≤ 60 := Nat.le_trans (List.length_filter_le _ _) (by simp; omega)
            by_cases hmx : m < Bj.length
            · have cc := cellB hB2 (cellB hB (HC3.out m hmx))
              have hst := com_step A Bj m hmx
              obtain ⟨p, hp⟩ : ∃ p, Bj.getD m 0 = p := ⟨_, rfl⟩
              rw [hp] at cc hst
              obtain ⟨t, ht⟩ : ∃ t, A.contains p = t := ⟨_, rfl⟩
              rw [ht] at hst
              obtain ⟨cn, hcn⟩ : ∃ cn, ((Bj.take m).filter fun p => A.contains p).length = cn := ⟨_, rfl⟩
              rw [hcn] at hst hcl ⊢
              have HTT := Lib.hid ht
              have HROWB := Lib.hid (HROWA.out.1.later hB2)
              clear hp ht hcn
              cases t with
              | true =>
                have HST := Lib.hid (hst.trans (by rfl : _ = cn + 1))
                clear hst
                go_wp2_with (go_at_call 52; (with_reducible refine (has_any _ A p _ _ _ _ HROWB.out (by omega) HTT.out).mono ?_); rintro e w1 ⟨rfl, rfl⟩)
                go_roundw
                case rel => exact ⟨m + 1, by omega, by go_num, by rw [HST.out]; go_num, hB2⟩
                case measure => simp [intOf]; omega
              | false =>
                have HST := Lib.hid (hst.trans (by rfl : _ = cn))
                clear hst
                go_wp2_with (go_at_call 52; (with_reducible refine (has_any _ A p _ _ _ _ HROWB.out (by omega) HTT.out).mono ?_); rintro e w1 ⟨rfl, rfl⟩)
                go_roundw
                case rel => exact ⟨m + 1, by omega, by go_num, by rw [HST.out], hB2⟩
                case measure => simp [intOf]; omega
            · obtain rfl : m = Bj.length := by omega
              rw [List.take_length] at hcl ⊢
              have hN : isN L k j = (comN A Bj == 2) := by
                unfold isN
                rw [decide_eq_true (by omega : k < j), HAE.out, HBE.out]
                rfl
              have hcm : ((Bj.filter fun p => A.contains p).length : Nat) = comN A Bj := rfl
              obtain ⟨cn, hcn⟩ : ∃ cn, comN A Bj = cn := ⟨_, rfl⟩
              rw [hcm, hcn] at hcl ⊢
              rw [hcn] at hN
              have hB3 := hB.trans (hB2.mono hz)
              have hz3 := hB3.size
              obtain ⟨vs, hv0⟩ := HI.out
              have hv := (hv0.keep (belowSame hB2 (Nat.le_refl _))).wider hz2'
              have HV := Lib.hid hv
              obtain ⟨um, un, uc, hform⟩ := own_form hv.outer
              clear hv0
              subst hform
              have hvl := hv.len
              have hb1 := allN_length L k
              have hb2' := rowN_length L k j
              have hb3 : k * L.length ≤ 1000 * 1000 := Nat.mul_le_mul (by omega) hsm
              rw [List.length_append] at hvl
              have hvs : vs.length < 1000000000 := by omega
              clear hcm hcn hv hb1 hb3 hvl hb2'
              by_cases h2 : cn = 2
              · subst h2
                have HY := Lib.hid (rowN_yes (L := L) (i := k) (j := j) (by rw [hN]; rfl))
                clear hN
                go_wp2_with (at_builtin; go_loud ((refine wpList_append_val rfl _ _ 36 rfl w2.heap.size 46 (Value.slice none 0 0) 24 Try.underlying36 info_ints rfl (by decide) _ vs rfl (World.ownsRow.alloc HV.out.outer _) (.slice (some ⟨wr.heap.size, 0, none⟩) 2 2) rfl (by rw [World.size_alloc]; rfl) hvs (by simp; omega) ?_); intro v' w' ho' hg'; (have hP := Lib.hid (RowsIn.pair HV.out hz3 (k : Int) (j : Int) ho' hg')); (have hB4 : Below w2.heap.size w2 w' := Below.grown (hB3.alloc hz3 _) hg' (by simp; omega) (fun q hq => (HV.out.outer.lt q hq).1)); clear ho' hg'))
                go_roundw
                case rel => exact ⟨j + 1, by omega, by omega, by go_num, Lib.hid (by rw [HY.out, ← List.append_assoc]; exact hP.out), hB4⟩
                case measure => simp [intOf]; omega
              · have HY := Lib.hid (rowN_no (L := L) (i := k) (j := j) (by rw [hN]; exact beq_eq_false_iff_ne.2 h2))
                have h3 : ((cn : Int) == 2) = false := beq_eq_false_iff_ne.2 (by omega)
                clear hN
                go_wp2
                go_roundw
                case rel => exact ⟨j + 1, by omega, by omega, by go_num, Lib.hid (by rw [HY.out]; exact ⟨vs, HV.out⟩), hB3⟩
                case measure => simp [intOf]; omega
        · obtain rfl : j = L.length := by omega
          go_wp2
          go_roundw
          case rel => exact ⟨k + 1, by omega, by go_num, Lib.hid (by rw [allN_succ]; exact HI.out), hB⟩
          case measure => simp [intOf]; omega
    · obtain rfl : k = L.length := by omega
      go_wp2
      go_ret
      exact ⟨_, rfl, rowsIn_low HI.out hz2, hb2.trans (hB.mono hz2)⟩
end Go.Proofs.Ytpliaenpencocab
