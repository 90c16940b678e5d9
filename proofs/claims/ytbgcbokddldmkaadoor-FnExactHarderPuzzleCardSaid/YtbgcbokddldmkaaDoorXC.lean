/- All solutions: the lists, on both sides. -/
import Derived.Test.YtbgcbokddldmkaaDoorXB
namespace Go.Proofs.YtbgcbokddldmkaaDoor
open Go.RowKit
set_option linter.unusedVariables false

set_option maxHeartbeats 2000000 in
theorem solutionsOf_any (u : Value) (xs : List Tri) (w : World) (hx : SrcT w u xs) (hP : puzzleP xs) :
    Calls Tryd.prog 104 #[u] w fun e w' => ∃ v, e = .returned v ∧ PairsIn 55 w' w.heap.size w'.heap.size v (solZ xs) ∧ Below w.heap.size w w' := by
  obtain ⟨a0, cap, g, off, hu, _, hc1, hc2, _⟩ := hx.form
  have HX := Lib.hid hx
  have HP := Lib.hid hP
  clear hx hP
  subst hu
  go_enter Tryd.func104, Tryd.ntmps104
  go_wp2
  go_loopw [3, 4] (fun v i wr => ∃ d P : Nat, d ≤ 12 ∧ P ≤ d + 3 ∧ d + 3 ≤ P ∧ i = .int .i64 (P : Int) ∧ Hid (PairsIn 55 wr w.heap.size wr.heap.size v (allZ xs d)) ∧ Below w.heap.size w wr) (fun _ i _ => 15 - (intOf i).toNat)
  case atStart => exact ⟨0, 3, by omega, by omega, by omega, rfl, Lib.hid (PairsIn.nil _ _ _ _), Below.refl _ _⟩
  case round =>
    obtain ⟨d, P, hd, hP1, hP2, rfl, HI, hB⟩ := hrel
    by_cases hlt : d < 12
    · have hle : (P : Int) ≤ 14 := by omega
      have HPD := Lib.hid (show P = d + 3 by omega)
      obtain ⟨wo, hwo⟩ : ∃ z, z = wr := ⟨wr, rfl⟩
      go_wp2
      go_loopw [3, 5] (fun v j wr => ∃ e S : Nat, e ≤ d + 2 ∧ S ≤ e + 1 ∧ e + 1 ≤ S ∧ j = .int .i64 (S : Int) ∧ Hid (PairsIn 55 wr w.heap.size wr.heap.size v (allZ xs d ++ rowZ xs (d + 3) e)) ∧ Below w.heap.size w wr) (fun _ j _ => P - (intOf j).toNat)
      case atStart => exact ⟨0, 1, by omega, by omega, by omega, rfl, Lib.hid (by rw [rowZ_zero, List.append_nil]; exact HI.out), hB⟩
      case round =>
        clear HI hB hwo
        obtain ⟨e, S, he, hS1, hS2, rfl, HI, hB⟩ := hrel
        have hz := hB.size
        by_cases hel : e < d + 2
        · have hst : (S : Int) < (P : Int) := by omega
          have HSE := Lib.hid (show S = e + 1 by omega)
          have hlen : (allZ xs d ++ rowZ xs (d + 3) e).length ≤ 1000 := by
            rw [List.length_append]
            have h1 := allZ_length xs d
            have h2 := rowZ_length xs (d + 3) e
            have h3 : d * (d + 2) ≤ 12 * 14 := Nat.mul_le_mul (by omega) (by omega)
            omega
          have HLEN := Lib.hid hlen
          clear hlen
          cases hf : fitsZ xs (d + 3) (e + 1) with
          | true =>
            have HY := Lib.hid (rowZ_yes hf)
            have hf2 : fitsZ xs P S = true := by rw [HPD.out, HSE.out]; exact hf
            have HF := Lib.hid hf2
            clear hf hf2
            go_wp2_with (first
              | (go_at_call 131; (refine (sol_con _ xs P S wr.heap.size false _ (HX.out.later (Below.trans hB (by go_grown))) HP.out (by omega) (by go_simp) (by go_simp) (by rw [HF.out]; rfl)).mono ?_); rintro e1 w1 ⟨rfl, hb1⟩; (have c0 : w1.cell? ⟨wr.heap.size, 0, none⟩ = some (.int .i64 (P : Int)) := cellB hb1 (by go_simp)); (have c1 : w1.cell? ⟨wr.heap.size, 1, none⟩ = some (.int .i64 (S : Int)) := cellB hb1 (by go_simp)); (have hb2 : Below wr.heap.size wr w1 := Below.trans (by go_grown) (hb1.mono (by simp))); (have hB1 := hB.trans (hb2.mono hz)); have hz1 := hB1.size; (have hzz1 := hb2.size); (have HI1 := Lib.hid (HI.out.keep (belowSame hb2 (Nat.le_refl _)))))
              | (at_builtin; refine wpList_append_pair rfl _ _ 73 rfl w.heap.size 55 Tryd.underlying73 info_star _ _ rfl HI1.out.1 (P : Int) (S : Int) rfl (by have := HLEN.out; omega) hz1 ?_; intro v' w' hI' hg'; have hB' := HI1.out.1.below hB1 hz1 hg'; have HI' := Lib.hid hI'; clear hI' hg'))
            go_roundw
            case rel => exact ⟨e + 1, S + 1, by omega, by omega, by omega, by go_num, Lib.hid (by rw [HY.out, ← List.append_assoc]; have h9 := HI'.out.inn; rw [show ((P : Nat) : Int) = ((d + 3 : Nat) : Int) by rw [HPD.out], show ((S : Nat) : Int) = (e : Int) + 1 by rw [HSE.out]; rfl] at h9; exact h9), hB'⟩
            case measure => simp [intOf]; omega
          | false =>
            have HY := Lib.hid (rowZ_no hf)
            have hf2 : fitsZ xs P S = false := by rw [HPD.out, HSE.out]; exact hf
            have HF := Lib.hid hf2
            clear hf hf2
            go_wp2_with (first
              | (go_at_call 131; (refine (sol_con _ xs P S wr.heap.size true _ (HX.out.later (Below.trans hB (by go_grown))) HP.out (by omega) (by go_simp) (by go_simp) (by rw [HF.out]; rfl)).mono ?_); rintro e1 w1 ⟨rfl, hb1⟩; (have hb2 : Below wr.heap.size wr w1 := Below.trans (by go_grown) (hb1.mono (by simp))); (have hB1 := hB.trans (hb2.mono hz)); (have hzz1 := hb2.size); (have HI1 := Lib.hid (HI.out.keep (belowSame hb2 (Nat.le_refl _))))))
            go_roundw
            case rel => exact ⟨e + 1, S + 1, by omega, by omega, by omega, by go_num, Lib.hid (by rw [HY.out]; exact HI1.out.wider (Nat.le_refl _) hzz1), hB1⟩
            case measure => simp [intOf]; omega
        · obtain rfl : e = d + 2 := by omega
          have hst : ¬ (S : Int) < (P : Int) := by omega
          have HA := Lib.hid (allZ_succ xs d)
          go_wp2
          go_roundw
          case rel => exact ⟨d + 1, P + 1, by omega, by omega, by omega, by go_num, Lib.hid (by rw [HA.out]; exact HI.out), hB⟩
          case measure => simp [intOf]; omega
    · obtain rfl : d = 12 := by omega
      go_wp2
      go_ret
      exact ⟨_, rfl, HI.out, hB⟩

set_option maxHeartbeats 2000000 in
theorem pzAll_any (u : Value) (xs : List Tri) (w : World) (hx : SrcT w u xs) (hP : puzzleP xs) :
    Calls Tryd.prog 54 #[u] w fun e w' => ∃ v, e = .returned v ∧ PairsIn 55 w' w.heap.size w'.heap.size v (solZ xs) ∧ Below w.heap.size w w' := by
  obtain ⟨a0, cap, g, off, hu, ha, hc1, hc2, hc⟩ := hx.form
  unfold maxLen at hc2
  have hl := hP.1
  have HP := Lib.hid hP.2
  have HC := Lib.hid hc
  have HA := Lib.hid ha
  clear hx hP hc ha
  subst hu
  go_enter Tryd.func54, Tryd.ntmps54
  go_wp2
  go_loopw [3, 4] (fun v i wr => ∃ d P : Nat, d ≤ 12 ∧ P ≤ d + 3 ∧ d + 3 ≤ P ∧ i = .int .i64 (P : Int) ∧ Hid (PairsIn 55 wr w.heap.size wr.heap.size v (allZ xs d)) ∧ Below w.heap.size w wr) (fun _ i _ => 15 - (intOf i).toNat)
  case atStart => exact ⟨0, 3, by omega, by omega, by omega, rfl, Lib.hid (PairsIn.nil _ _ _ _), Below.refl _ _⟩
  case round =>
    obtain ⟨d, P, hd, hP1, hP2, rfl, HI, hB⟩ := hrel
    by_cases hlt : d < 12
    · have hle : (P : Int) ≤ 14 := by omega
      have HPD := Lib.hid (show P = d + 3 by omega)
      obtain ⟨wo, hwo⟩ : ∃ z, z = wr := ⟨wr, rfl⟩
      go_wp2
      go_loopw [3, 5] (fun v j wr => ∃ e S : Nat, e ≤ d + 2 ∧ S ≤ e + 1 ∧ e + 1 ≤ S ∧ j = .int .i64 (S : Int) ∧ Hid (PairsIn 55 wr w.heap.size wr.heap.size v (allZ xs d ++ rowZ xs (d + 3) e)) ∧ Below w.heap.size w wr) (fun _ j _ => P - (intOf j).toNat)
      case atStart => exact ⟨0, 1, by omega, by omega, by omega, rfl, Lib.hid (by rw [rowZ_zero, List.append_nil]; exact HI.out), hB⟩
      case round =>
        clear HI hB hwo
        obtain ⟨e, S, he, hS1, hS2, rfl, HI, hB⟩ := hrel
        have hz := hB.size
        by_cases hel : e < d + 2
        · have hst : (S : Int) < (P : Int) := by omega
          have HSE := Lib.hid (show S = e + 1 by omega)
          have hlen : (allZ xs d ++ rowZ xs (d + 3) e).length ≤ 1000 := by
            rw [List.length_append]
            have h1 := allZ_length xs d
            have h2 := rowZ_length xs (d + 3) e
            have h3 : d * (d + 2) ≤ 12 * 14 := Nat.mul_le_mul (by omega) (by omega)
            omega
          have HLEN := Lib.hid hlen
          clear hlen
          obtain ⟨wp, rfl⟩ : ∃ z, z = wr := ⟨wr, rfl⟩
          go_wp2
          go_loopw [7, 24] (fun t i wq => ∃ k : Nat, k ≤ xs.length ∧ i = .int .i64 (k : Int) ∧ t = .bool (fitsZ (xs.take k) P S) ∧ Hid (Below wp.heap.size wp wq) ∧ wq.cell? ⟨wp.heap.size, 0, none⟩ = some (.int .i64 (P : Int)) ∧ wq.cell? ⟨wp.heap.size, 1, none⟩ = some (.int .i64 (S : Int))) (fun _ i _ => xs.length - (intOf i).toNat)
          case atStart => exact ⟨0, by omega, rfl, by simp [fitsZ], Lib.hid (by go_grown), by go_simp, by go_simp⟩
          case round =>
            obtain ⟨k, hk, rfl, ht, HBq, hs0, hs1⟩ := hrel
            have hBq := HBq.out
            have hzq := hBq.size
            obtain ⟨t, htt⟩ : ∃ t, fitsZ (xs.take k) P S = t := ⟨_, rfl⟩
            rw [htt] at ht
            subst ht
            by_cases hlt : k < xs.length
            · obtain rfl := HA.out (by omega)
              obtain ⟨hx, hy, hzc⟩ := HC.out k hlt
              have hBw := hB.trans (hBq.mono hz)
              have cx := cellB hBw hx
              have cy := cellB hBw hy
              have cz := cellB hBw hzc
              have hcl := HP.out k hlt
              have hst2 := fitsZ_step xs P S k hlt
              obtain ⟨x, y, z, hxy⟩ : ∃ x y z, xs.getD k noT = (x, y, z) := ⟨_, _, _, rfl⟩
              rw [hxy] at cx cy cz hcl hst2
              simp only at cx cy cz
              rw [htt] at hst2
              have HCL := Lib.hid hcl
              have i1 : 0 ≤ (k : Int) := by omega
              have i2 : (k : Int) < (xs.length : Int) := by omega
              obtain ⟨f, hf⟩ : ∃ f, fitZ (x, y, z) P S = f := ⟨_, rfl⟩
              rw [hf] at hst2
              have HF := Lib.hid hf
              have HST := Lib.hid hst2
              have r0 := cellB (w' := wr.alloc (.cells #[.int .i64 x, .int .i64 y, .int .i64 z] 44)) (by go_grown) hs0
              have r1 := cellB (w' := wr.alloc (.cells #[.int .i64 x, .int .i64 y, .int .i64 z] 44)) (by go_grown) hs1
              clear hx hy hzc hxy hcl hf hst2 htt
              cases t with
              | true =>
                go_wp2_with (first | (go_at_call 98; (refine (pzFits_any x y z P S f _ HCL.out (by omega) HF.out).mono ?_); rintro e1 w1 ⟨rfl, hb1⟩; (have hb2 : Below wr.heap.size wr w1 := Below.trans (by go_grown) (hb1.mono (by simp))); have s0 := cellB hb2 hs0; have s1 := cellB hb2 hs1; (have hb3 := hBq.trans (hb2.mono hzq))))
                go_roundw
                case rel => exact ⟨k + 1, by omega, by go_num, by rw [HST.out]; rfl, Lib.hid hb3, s0, s1⟩
                case measure => simp [intOf]; omega
              | false =>
                go_wp2
                go_roundw
                case rel => exact ⟨k + 1, by omega, by go_num, by rw [HST.out]; rfl, Lib.hid (Below.trans hBq (by go_grown)), cellB (by go_grown) hs0, cellB (by go_grown) hs1⟩
                case measure => simp [intOf]; omega
            · obtain rfl : k = xs.length := by omega
              rw [List.take_length] at htt
              have hB1 := hB.trans (hBq.mono hz)
              have hz1 := hB1.size
              have HI1 := Lib.hid (HI.out.keep (belowSame hBq (Nat.le_refl _)))
              have hfd : fitsZ xs (d + 3) (e + 1) = t := by rw [← HPD.out, ← HSE.out]; exact htt
              have HFD := Lib.hid hfd
              clear htt hfd HBq
              cases t with
              | true =>
                have HY := Lib.hid (rowZ_yes HFD.out)
                go_wp2_with (first | (at_builtin; refine wpList_append_pair rfl _ _ 73 rfl w.heap.size 55 Tryd.underlying73 info_star _ _ rfl HI1.out.1 (P : Int) (S : Int) rfl (by have := HLEN.out; omega) hz1 ?_; intro v' w' hI' hg'; have hB' := HI1.out.1.below hB1 hz1 hg'; have HI' := Lib.hid hI'; clear hI' hg'))
                go_roundw
                case rel => exact ⟨e + 1, S + 1, by omega, by omega, by omega, by go_num, Lib.hid (by rw [HY.out, ← List.append_assoc]; have h9 := HI'.out.inn; rw [show ((P : Nat) : Int) = ((d + 3 : Nat) : Int) by rw [HPD.out], show ((S : Nat) : Int) = (e : Int) + 1 by rw [HSE.out]; rfl] at h9; exact h9), hB'⟩
                case measure => simp [intOf]; omega
              | false =>
                have HY := Lib.hid (rowZ_no HFD.out)
                go_wp2
                go_roundw
                case rel => exact ⟨e + 1, S + 1, by omega, by omega, by omega, by go_num, Lib.hid (by rw [HY.out]; exact HI1.out.wider (Nat.le_refl _) hzq), hB1⟩
                case measure => simp [intOf]; omega
        · obtain rfl : e = d + 2 := by omega
          have hst : ¬ (S : Int) < (P : Int) := by omega
          have HA := Lib.hid (allZ_succ xs d)
          go_wp2
          go_roundw
          case rel => exact ⟨d + 1, P + 1, by omega, by omega, by omega, by go_num, Lib.hid (by rw [HA.out]; exact HI.out), hB⟩
          case measure => simp [intOf]; omega
    · obtain rfl : d = 12 := by omega
      go_wp2
      go_ret
      exact ⟨_, rfl, HI.out, hB⟩
end Go.Proofs.YtbgcbokddldmkaaDoor
