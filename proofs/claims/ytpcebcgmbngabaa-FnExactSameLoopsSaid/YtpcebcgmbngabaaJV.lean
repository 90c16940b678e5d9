/- Texts shifted: the program's shifted. -/
import Derived.Test.YtpcebcgmbngabaaJU
namespace Go.Proofs.Ytpcebcgmbngabaa
open Go.RowKit
set_option linter.unusedVariables false

theorem wp_append_text {w : World} {o : Oper} {a : Act} {K : Act → World → Prop} {Q : Exit → Act → World → Prop} (s x : Operand)
    (ho : o.op = .call { callee := .builtin .append, args := #[s, x], argTypes := #[66, 9] }) (g n cap : Nat) (L : List UInt8) (y : ByteArray)
    (hs : a.eval s = .slice (some ⟨g, 0, none⟩) n cap) (hx : a.eval x = .string y) (hS : ByW w g cap L) (hn : n = L.length) (hcap : cap ≤ maxLen) (hy : n + y.size ≤ 1048576)
    (h : ∀ g' cap' w', ByW w' g' cap' (L ++ y.data.toList) → w.grownBy w' (some g) → K (a.put o.dst (.slice (some ⟨g', 0, none⟩) (n + y.size) cap')) w') : o.wp Try.prog a w K Q := by
  obtain ⟨g', cap', w', hr, h2, h3⟩ := run_append_text hS hn hcap y hy o.type
  unfold Oper.wp execOp
  simp only [ho, resolve, invoke, builtin, Sem.run_bind, Sem.run_pure, Result.andThen_ok, List.map_toArray, List.map_cons, List.map_nil, hs, hx, hr]
  exact h g' cap' w' h2 h3

theorem ext_list (t : ByteArray) (i j : Nat) : (t.extract i j).data.toList = (t.data.toList.drop i).take (j - i) := by
  rw [ByteArray.data_extract, Array.toList_extract, List.extract_eq_take_drop]

theorem rot_ext (t : ByteArray) (k : Nat) (hk : k ≤ t.size) : (t.extract k t.size).data.toList ++ (t.extract 0 k).data.toList = rotL t.data.toList k := by
  rw [ext_list, ext_list, rotL, List.drop_zero, Nat.sub_zero, List.take_of_length_le (by rw [List.length_drop, tx_len]; omega)]

set_option maxHeartbeats 1000000 in
theorem shifted_any (t : ByteArray) (k : Nat) (w : World) (hk : k ≤ t.size) (ht : t.size ≤ 1000) :
    Calls Try.prog 59 #[.string t, .int .i64 k] w fun e w' => e = .returned (.string (txL (rotL t.data.toList k))) ∧ Below w.heap.size w w' := by
  have hrot := rot_ext t k hk
  have hz : (t.extract k t.size).size = t.size - k := by rw [ByteArray.size_extract]; omega
  have hy : (t.extract 0 k).size = k := by rw [ByteArray.size_extract]; omega
  obtain ⟨capF, WF, hcv, hWF⟩ := bytes_made (t.extract k t.size) (by omega)
  have hxl := tx_len (t.extract k t.size)
  obtain ⟨X, hX⟩ : ∃ X, t.extract k t.size = X := ⟨_, rfl⟩
  obtain ⟨Y, hY⟩ : ∃ Y, t.extract 0 k = Y := ⟨_, rfl⟩
  rw [hX] at hrot hz hcv hWF hxl
  rw [hY] at hrot hy
  obtain ⟨m, hm⟩ : ∃ m, X.size = m := ⟨_, rfl⟩
  rw [hm] at hz hcv hWF hxl
  have HWF := Lib.hid hWF
  have HR := Lib.hid hrot
  have HXL := Lib.hid hxl
  have HY := Lib.hid hy
  have k0 : 0 ≤ (k : Int) := by omega
  have k1 : (k : Int) ≤ (t.size : Int) := by omega
  have HZ := Lib.hid hz
  clear hWF hrot hxl hm hz
  go_enter Try.func59, Try.ntmps59
  go_wp2

  refine wp_region_held_drew (S := fun w' => Below w.heap.size w w') (by kernel_rfl) (by (try dsimp only); first | exact Below.refl _ _ | exact bdn (Below.refl _ _) _ | exact hHeld) (fun hHeld => ?_)
  refine wpAnyH_take (i := 0) (v := ?v1) rfl (by kernel_rfl) (by kernel_rfl) (by kernel_rfl) (fun _ _ _ h => h) (Or.inl ⟨by rfl, ?hy1⟩) (by assumption) ?rest1
  case hy1 => (intro w hSw; (try dsimp only at hSw); go_simp; (try with_reducible rfl))
  simp only [Act.put, List.getElem_toArray, List.getElem_cons_zero, List.setIfInBounds_toArray, List.set_cons_zero, List.set_cons_succ]
  refine wpAnyH_take (i := 1) (v := ?v2) rfl (by kernel_rfl) (by kernel_rfl) (by kernel_rfl) (fun _ _ _ h => h) (Or.inl ⟨by rfl, ?hy2⟩) (by assumption) ?rest2
  case hy2 => (intro w hSw; (try dsimp only at hSw); go_simp; (try with_reducible rfl))
  simp only [Act.put, List.getElem_toArray, List.getElem_cons_zero, List.getElem_cons_succ, List.setIfInBounds_toArray, List.set_cons_zero, List.set_cons_succ]
  refine wpAnyH_take (i := 2) (v := ?v3) rfl (by kernel_rfl) (by kernel_rfl) (by kernel_rfl) (fun _ _ _ h => h) (Or.inl ⟨by rfl, ?hy3⟩) (by assumption) ?rest3
  case hy3 => (intro w hSw; (try dsimp only at hSw); go_simp; (try with_reducible rfl))
  simp only [Act.put, List.getElem_toArray, List.getElem_cons_zero, List.getElem_cons_succ, List.setIfInBounds_toArray, List.set_cons_zero, List.set_cons_succ]
  refine wpAnyH_take (i := 4) (v := ?v4) rfl (by kernel_rfl) (by kernel_rfl) (by kernel_rfl) (fun _ _ _ h => h) (Or.inl ⟨by rfl, ?hy4⟩) (by assumption) ?rest4
  case hy4 => (intro w hSw; (try dsimp only at hSw); go_simp; (try with_reducible rfl))
  simp only [Act.put, List.getElem_toArray, List.getElem_cons_zero, List.getElem_cons_succ, List.setIfInBounds_toArray, List.set_cons_zero, List.set_cons_succ]
  refine wpAnyH_take (i := 5) (v := ?v5) rfl (by kernel_rfl) (by kernel_rfl) (by kernel_rfl) (fun _ _ _ h => h) (Or.inl ⟨by rfl, ?hy5⟩) (by assumption) ?rest5
  case hy5 => (intro w hSw; (try dsimp only at hSw); go_simp; (try with_reducible rfl))
  simp only [Act.put, List.getElem_toArray, List.getElem_cons_zero, List.getElem_cons_succ, List.setIfInBounds_toArray, List.set_cons_zero, List.set_cons_succ]
  refine wpAnyH_take (i := 6) (v := ?v6) rfl (by kernel_rfl) (by kernel_rfl) (by kernel_rfl) (fun _ _ _ h => h) (Or.inl ⟨by rfl, ?hy6⟩) (by assumption) ?rest6
  case hy6 => (intro w hSw; (try dsimp only at hSw); go_simp; (try with_reducible rfl))
  simp only [Act.put, List.getElem_toArray, List.getElem_cons_zero, List.getElem_cons_succ, List.setIfInBounds_toArray, List.set_cons_zero, List.set_cons_succ]
  refine wpAnyH_ready (rs := [3]) (by kernel_rfl) (by simp) ?_
  refine AllReadyH.cons rfl (fun K hK => ?_) AllReadyH.nil
  simp only [List.getElem_toArray, List.getElem_cons_zero, List.getElem_cons_succ]
  go_simp
  refine hK.out _ _ (by (try dsimp only); exact hHeld.trans (((HWF.out _).2.1).mono hHeld.size)) (fun hHeld => ?_)
  clear hK K
  have hW2 := HWF.out w.drew
  obtain ⟨hS0, hB0, hz0, hc1, hc2⟩ := hW2
  refine wpAnyH_ready (rs := [7]) (by kernel_rfl) (by simp) ?_
  refine AllReadyH.cons rfl (fun K hK => ?_) AllReadyH.nil
  simp only [List.getElem_toArray, List.getElem_cons_zero, List.getElem_cons_succ]
  rw [if_pos (by rfl)]; refine wp_append_text (.tmp 8) (.tmp 11) rfl w.heap.size m _ X.data.toList Y rfl rfl hS0 HXL.out.symm hc2 (by have := HY.out; have := HZ.out; omega) ?_; intro g2 cap2 w2 hS2 hg2
  refine hK.out _ _ (by (try dsimp only); exact hHeld.grown hg2 hHeld.size (fun q hq => by cases hq; exact Nat.le_refl _)) (fun hHeld => ?_)
  clear hK K
  simp only [Act.put, List.setIfInBounds_toArray, List.set_cons_zero, List.set_cons_succ]
  rw [HR.out] at hS2
  have hback := bytes_back hS2 (m + k) cap2 (by rw [rotL_length, tx_len]; have := HY.out; have := HZ.out; omega)
  refine wpAnyH_ready (rs := [8]) (by kernel_rfl) (by simp) ?_
  refine AllReadyH.cons rfl (fun K hK => ?_) AllReadyH.nil
  simp only [List.getElem_toArray, List.getElem_cons_zero, List.getElem_cons_succ]
  go_simp
  refine hK.out _ _ (by (try dsimp only); exact hHeld) (fun hHeld => ?_)
  clear hK K
  refine wpAnyH_take (i := 9) (v := ?v7) rfl (by kernel_rfl) (by kernel_rfl) (by kernel_rfl) (fun _ _ _ h => h) (Or.inl ⟨by rfl, ?hy7⟩) (by assumption) ?rest7
  case hy7 => (intro w hSw; (try dsimp only at hSw); go_simp; (try with_reducible rfl))
  simp only [Act.put, List.getElem_toArray, List.getElem_cons_zero, List.getElem_cons_succ, List.setIfInBounds_toArray, List.set_cons_zero, List.set_cons_succ]
  refine wpAnyH_done (by kernel_rfl) ?_ _
  go_wp2
  go_ret
  exact ⟨rfl, hHeld⟩

end Go.Proofs.Ytpcebcgmbngabaa
