/- slices.Concat of slices of clues. -/
import Derived.Test.YtbgcbokddldmkaaDoorX2
import Derived.Test.YtbgcbokddldmkaaDoorX3
import Derived.Test.YtbgcbokddldmkaaDoorBA
import Derived.Test.YtbgcbokddldmkaaDoorRows
import Derived.Lib.AppendZeros
namespace Go.Proofs.YtbgcbokddldmkaaDoor
open Go.RowKit
set_option linter.unusedVariables false

theorem zeroCellsT_size (z : Array Value) (n : Nat) : (Builtin.zeroCells z n).size = n * z.size := by simp [Builtin.zeroCells]

theorem trips_grown (W : World) (B : Nat) (e : TypeId) (n c : Nat) (hB : B ≤ W.heap.size) (hnc : n ≤ c) (hc : c ≤ maxLen) :
    Trips (W.alloc (.cells (Builtin.zeroCells #[.int .i64 0, .int .i64 0, .int .i64 0] n ++ Builtin.zeroCells #[.int .i64 0, .int .i64 0, .int .i64 0] (c - n)) e)) B e (.slice (some ⟨W.heap.size, 0, none⟩) 0 c) [] := by
  refine ⟨by simp [flatT], .inr ⟨W.heap.size, c, _, by simp, hB, heap_alloc_new W _, by simp, hc, ?_, by simp [flatT]⟩⟩
  rw [Array.size_append, zeroCellsT_size, zeroCellsT_size]
  simp
  omega

set_option maxHeartbeats 400000 in
theorem growT_none (w : World) :
    Calls Tryd.prog 130 #[.slice none 0 0, .int .i64 0] w fun e w' => ∃ v, e = .returned v ∧ Trips w' w.heap.size 44 v [] ∧ Below w.heap.size w w' := by
  go_enter Tryd.func130, Tryd.ntmps130
  go_wp2
  go_ret
  exact ⟨_, rfl, World.ownsRow_nil _ _ _ _, Below.refl _ _⟩

theorem wpList_append_zerosT {P : Program} {w : World} {ops : Array Oper} {rest : List Oper} {o : Oper} {a : Act} {Q : Exit → Act → World → Prop} (hgd : o.guard = none) (s x : Operand) (t tn : TypeId)
    (ho : o.op = .call { callee := .builtin .append, args := #[s, x], argTypes := #[t, tn] }) (e : TypeId) (ht : P.underlying t = some (.slice e)) (htn : P.underlying tn = some (.int .i64))
    (hi : (P.info? e).map (fun i => (i.zero, i.size, i.bytes)) = some (some (.agg #[.int .i64 0, .int .i64 0, .int .i64 0]), 3, 24)) (n : Nat) (h0 : 0 < n) (hn : n ≤ 1000000) (hs : a.eval s = .slice none 0 0) (hx : a.eval x = .int .i64 n)
    (h : ∀ c, n ≤ c → c ≤ maxLen → wpList P ops Q rest (a.put o.dst (.slice (some ⟨w.heap.size, 0, none⟩) n c)) (w.drew.alloc (.cells (Builtin.zeroCells #[.int .i64 0, .int .i64 0, .int .i64 0] n ++ Builtin.zeroCells #[.int .i64 0, .int .i64 0, .int .i64 0] (c - n)) e))) :
    wpList P ops Q (o :: rest) a w := by
  refine wpList_plain hgd fun K' hK => ?_
  obtain ⟨i, hi, hz0, hz1, hz2⟩ := info_parts hi
  have hr := Go.Lib.run_append_nil_zeros (P := P) w t tn o.type e i (.agg #[.int .i64 0, .int .i64 0, .int .i64 0]) .i64 .i64 ht htn hi hz0 n h0 (by omega) (by omega) (by rw [hz2]; omega)
  unfold Oper.wp execOp
  simp only [ho, resolve, invoke, builtin, Sem.run_bind, Sem.run_pure, Result.andThen_ok, List.map_toArray, List.map_cons, List.map_nil, hs, hx, hr]
  exact hK _ _ (h _ (grownCap_ge w n 0 e) (grownCap_le_maxLen w n 0 e (by unfold maxLen; omega)))

set_option maxHeartbeats 400000 in
theorem growT_some (n : Nat) (w : World) (h0 : 0 < n) (hn : n ≤ 1000000) :
    Calls Tryd.prog 130 #[.slice none 0 0, .int .i64 n] w fun e w' => ∃ v, e = .returned v ∧ Trips w' w.heap.size 44 v [] ∧ Below w.heap.size w w' := by
  have hi := (show (Tryd.prog.info? 44).map (fun i => (i.zero, i.size, i.bytes)) = some (some (.agg #[.int .i64 0, .int .i64 0, .int .i64 0]), 3, 24) by kernel_rfl)
  have hn0 : 0 < (n : Int) := by omega
  have hn1 : ¬ ((n : Int) < 0) := by omega
  have HI := Lib.hid hi
  clear hi
  go_enter Tryd.func130, Tryd.ntmps130
  go_wp2_with (at_builtin; refine wpList_append_zerosT rfl _ _ 29 3 rfl 44 Tryd.underlying29 Tryd.underlying3 HI.out n h0 hn rfl rfl ?_; intro c hc1 hc2; have HP := Lib.hid (trips_grown w.drew w.heap.size 44 n c (Nat.le_refl _) hc1 hc2))
  go_ret
  exact ⟨_, rfl, HP.out, by go_grown⟩

theorem growT_any (n : Nat) (w : World) (hn : n ≤ 1000000) :
    Calls Tryd.prog 130 #[.slice none 0 0, .int .i64 n] w fun e w' => ∃ v, e = .returned v ∧ Trips w' w.heap.size 44 v [] ∧ Below w.heap.size w w' := by
  rcases Nat.eq_zero_or_pos n with rfl | h0
  · exact growT_none w
  · exact growT_some n w h0 hn

/-- How many pairs the first k lists hold together. -/
def totT (xss : List (List Tri)) (k : Nat) : Nat := ((xss.take k).flatten).length

theorem flat_take_snocT (xss : List (List Tri)) (k : Nat) (h : k < xss.length) : (xss.take (k + 1)).flatten = (xss.take k).flatten ++ xss.getD k [] := by
  rw [List.take_succ_eq_append_getElem h, List.flatten_append, List.getD_eq_getElem?_getD, List.getElem?_eq_getElem h]
  simp

theorem totT_succ (xss : List (List Tri)) (k : Nat) (h : k < xss.length) : totT xss (k + 1) = totT xss k + (xss.getD k []).length := by
  unfold totT
  rw [flat_take_snocT xss k h, List.length_append]

theorem totT_le (xss : List (List Tri)) (k : Nat) : totT xss k ≤ xss.flatten.length := by
  unfold totT
  conv => rhs; rw [← List.take_append_drop k xss, List.flatten_append, List.length_append]
  omega

set_option maxHeartbeats 800000 in
theorem concatT_any (h m : Nat) (vs : List Value) (xss : List (List Tri)) (w : World) (hm : xss.length = m) (hm9 : m ≤ 1000) (hcell : ∀ i, i < m → w.cell? ⟨h, i, none⟩ = some (vs.getD i undef)) (hsrc : ∀ i, i < m → SrcT w (vs.getD i undef) (xss.getD i []))
    (ht : xss.flatten.length ≤ 1000000) :
    Calls Tryd.prog 103 #[.slice (some ⟨h, 0, none⟩) m m] w fun e w' => ∃ v, e = .returned v ∧ TripsIn 44 w' w.heap.size w'.heap.size v xss.flatten ∧ Below w.heap.size w w' := by
  have HC := Lib.hid hcell
  have HS := Lib.hid hsrc
  have HI := Lib.hid (show (Tryd.prog.info? 44).map (fun i => (i.zero, i.size, i.bytes)) = some (some (.agg #[.int .i64 0, .int .i64 0, .int .i64 0]), 3, 24) by kernel_rfl)
  obtain ⟨tt, htt⟩ : ∃ t, t = xss.flatten.length := ⟨_, rfl⟩
  rw [← htt] at ht
  have HTT := Lib.hid htt
  clear hcell hsrc htt
  go_enter Tryd.func103, Tryd.ntmps103
  go_wp2
  go_loop [3, 11] (fun u i => ∃ k : Nat, k ≤ m ∧ i = .int .i64 k ∧ u = .int .i64 (totT xss k : Nat)) (fun _ i => m - (intOf i).toNat)
  case atStart => exact ⟨0, by omega, rfl, by simp [totT]⟩
  case round =>
    obtain ⟨k, hk, rfl, rfl⟩ := hrel
    have h1 := totT_le xss k
    rw [← HTT.out] at h1
    by_cases hlt : k < m
    · have cc := HC.out k hlt
      obtain ⟨a0, cap, _, _, hv, _⟩ := (HS.out k hlt).form
      rw [hv] at cc
      have h2 := totT_le xss (k + 1)
      rw [← HTT.out] at h2
      have h3 := totT_succ xss k (by omega)
      obtain ⟨n, hn⟩ : ∃ n, n = (xss.getD k []).length := ⟨_, rfl⟩
      rw [← hn] at cc h3
      have H3 := Lib.hid h3
      have hsum : totT xss k + n ≤ 1000000 := by omega
      obtain ⟨tk, htk⟩ : ∃ t, t = totT xss k := ⟨_, rfl⟩
      rw [← htk] at hsum H3 ⊢
      have hw : IntKind.i64.wrap ((tk : Int) + (n : Int)) = ((tk + n : Nat) : Int) := by rw [IntKind.wrap_i64]; omega
      obtain ⟨tn, htn⟩ : ∃ t, t = tk + n := ⟨_, rfl⟩
      rw [← htn] at hw H3
      have hn1 : ¬ ((tn : Int) < 0) := by omega
      clear hv h3 hn h2 h1 htk htn hsum
      go_wp2
      go_round
      case rel => exact ⟨k + 1, by omega, by go_num, by rw [H3.out]⟩
      case measure => simp [intOf]; omega
    · obtain rfl : k = m := by omega
      rw [show totT xss k = tt by unfold totT; rw [List.take_of_length_le (by omega), HTT.out]]
      clear h1
      go_wp2_with (go_at_call 130; (with_reducible refine (growT_any _ _ ht).mono ?_); rintro e w1 ⟨v, rfl, hI1, hb1⟩; have hz1 := hb1.size)
      have HI1 := Lib.hid hI1
      clear hI1
      go_loopw [6, 27] (fun u i wr => ∃ j : Nat, j ≤ k ∧ i = .int .i64 j ∧ Trips wr w.heap.size 44 u ((xss.take j).flatten) ∧ Below w.heap.size w wr) (fun _ i _ => k - (intOf i).toNat)
      case atStart => exact ⟨0, by omega, rfl, by simpa using HI1.out, hb1⟩
      case round =>
        obtain ⟨j, hj, rfl, hI, hB⟩ := hrel
        have hz := hB.size
        have HIj := Lib.hid hI
        clear hI
        by_cases hlt2 : j < k
        · have cc := (hB.cell (p := ⟨h, j, none⟩) (World.block_lt_of_cell? w _ (HC.out j hlt2))).trans (HC.out j hlt2)
          have HSj := Lib.hid ((HS.out j hlt2).later hB)
          have HF := Lib.hid (flat_take_snocT xss j (by omega))
          have h2 := totT_le xss (j + 1)
          rw [← HTT.out] at h2
          have h3 := totT_succ xss j (by omega)
          have h4 : ((xss.take j).flatten).length = totT xss j := rfl
          have hsum : ((xss.take j).flatten).length + (xss.getD j []).length ≤ 1000000000 := by omega
          obtain ⟨a0, cap, _, _, hv, _⟩ := (HS.out j hlt2).form
          have HV := Lib.hid hv
          rw [hv] at HSj cc
          obtain ⟨ys, hys⟩ : ∃ ys, ys = xss.getD j [] := ⟨_, rfl⟩
          rw [← hys] at HSj cc HF hsum
          obtain ⟨us, hus⟩ : ∃ us, us = (xss.take j).flatten := ⟨_, rfl⟩
          rw [← hus] at HIj HF hsum
          clear h2 h3 h4 hv hys hus HV
          go_wp2_with (at_builtin; refine wpList_append_trips rfl _ _ 29 rfl w.heap.size 44 Tryd.underlying29 HI.out _ _ _ _ rfl rfl HIj.out HSj.out hsum hz ?_; intro v' w' hI' hg' _; have HN := Lib.hid hI'; have HBN := Lib.hid (Trips.below HIj.out hB hz hg'); clear hI' hg')
          go_roundw
          case rel => exact ⟨j + 1, by omega, by go_num, by rw [HF.out]; exact HN.out, HBN.out⟩
          case measure => simp [intOf]; omega
        · obtain rfl : j = k := by omega
          have e : xss.take j = xss := List.take_of_length_le (by omega)
          have HE := Lib.hid e
          clear e
          go_wp2
          go_ret
          exact ⟨_, rfl, by rw [← HE.out]; exact HIj.out.inn, hB⟩

theorem cellsT_of {W : World} {h : Nat} {cs : Array Value} {t : TypeId} {fr : Nat × Nat} (hh : W.heap[h]? = some (.cells cs t fr)) : ∀ i, i < cs.size → W.cell? ⟨h, i, none⟩ = some (cs.toList.getD i undef) := by
  intro i hi
  rw [cell_of_row _ h i _ _ _ hh, List.getD_eq_getElem?_getD]
  simp [hi]

end Go.Proofs.YtbgcbokddldmkaaDoor
