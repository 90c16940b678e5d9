/- Trains: whether wheels are in gear: the law. -/
import Derived.Test.YtnnhjnogebicbabH6
namespace Go.Proofs.Ytnnhjnogebicbab
open Go.RowKit
set_option linter.unusedVariables false

set_option maxHeartbeats 2000000 in
theorem iAreInGear_yes (v u : Value) (xs ys : List Int) (B1 T1 B2 T2 : Nat) (b : Bool) (w : World) (h : IntsIn 3 w B1 T1 v xs) (h2 : IntsIn 3 w B2 T2 u ys) (ht : Train xs) (hy : TeethOf xs ys) (hb : b = true ↔ Agree xs ys) :
    Calls Try.prog 23 #[v, u] w fun e w' => e = .returned (.tuple #[.bool b, .bool true]) ∧ Below w.heap.size w w' := by
  have two := ht.two
  have six := ht.1.2
  obtain ⟨g1, cap, rfl, hcap, hcm⟩ := h.lit (by omega)
  obtain ⟨g2, cap2, rfl, hcap2, hcm2⟩ := h2.lit (by have := hy.1; omega)
  have H := Lib.hid h.arg
  have H2 := Lib.hid h2.arg
  have HTR := Lib.hid ht
  have HY := Lib.hid hy
  have HW := Lib.hid ht.wheels
  have HB := Lib.hid hb
  have HC : Hid (∀ i, i < xs.length → w.cell? ⟨g1, i, none⟩ = some (.int .i64 (xs.getD i 0))) := Lib.hid (fun i hi => h.1.cellAt i hi)
  rw [hy.1] at hcap2 H2 ⊢
  obtain ⟨n, hn⟩ : ∃ n, xs.length = n := ⟨_, rfl⟩
  have HN := Lib.hid hn
  rw [hn] at two six hcap hcap2 H H2 HC ⊢
  unfold maxLen at hcm hcm2
  clear h h2 ht hy hb hn
  go_enter Try.func23, Try.ntmps23
  go_wp2_with (first | (go_at_call 36; (with_reducible refine (isTrain_yes _ _ _ H.out HTR.out).mono ?_); rintro e w1 ⟨rfl, rfl⟩) | (go_at_call 44; (with_reducible refine (areTeethOf_yes _ _ _ _ _ H.out H2.out HY.out).mono ?_); rintro e w1 ⟨rfl, rfl⟩))
  go_loopw [6, 7, 24] (fun s p i wr => ∃ k S : Nat, k ≤ n ∧ i = .int .i64 k ∧ s = .int .i64 S ∧ p = .int .i64 (perT xs k : Nat) ∧ S < 300 ^ k ∧ Hid (∀ q, q < k → ((tn xs q : Nat) : Int) ∣ (S : Int) - cT ys q) ∧ Below w.heap.size w wr) (fun _ _ i _ => n - (intOf i).toNat)
  case atStart => exact ⟨0, 0, by omega, rfl, rfl, by rw [perT_zero]; rfl, by simp, Lib.hid (fun q hq => by omega), Below.refl _ _⟩
  case round =>
    obtain ⟨k, S, hk, rfl, rfl, rfl, hS, HD, hB⟩ := hrel
    have hz := hB.size
    by_cases hlt : k < n
    · have cc := (hB.cell (World.block_lt_of_cell? w _ (HC.out k hlt))).trans (HC.out k hlt)
      have hk1 : k < xs.length := by rw [HN.out]; exact hlt
      have hk2 : k < ys.length := by have := HY.out.1; omega
      have ht1 := HW.out.tn hk1
      have hP1 := perT_pow HW.out k (by omega)
      have hP2 := perT_bd HW.out k (by omega)
      have hS2 := pow_bd hS (by omega)
      rw [← ht1.1] at cc
      obtain ⟨t, htt⟩ : ∃ t, tn xs k = t := ⟨_, rfl⟩
      obtain ⟨P, hPP⟩ : ∃ P, perT xs k = P := ⟨_, rfl⟩
      have hq := fun q => reach_iff HW.out HY.out q (k + 1) hk1
      have hnx := fun ha => agree_next HW.out ha S k hk1 HD.out
      rw [htt] at ht1 cc
      rw [hPP] at hP1 hP2 ⊢
      obtain ⟨t1, t2, t3⟩ := ht1
      obtain ⟨X, hX⟩ : ∃ X, xs.take (k + 1) = X := ⟨_, rfl⟩
      obtain ⟨L, hL⟩ : ∃ L, toldL (ys.take (k + 1)) = L := ⟨_, rfl⟩
      have hXl : X.length = k + 1 := by rw [← hX]; simp; omega
      have HXW := Lib.hid (show Wheels X by rw [← hX]; exact wheels_take HW.out _)
      have HLL := Lib.hid (show L.length = 6 by rw [← hL]; exact toldL_length _ (by simp; omega))
      have HPN := Lib.hid (show perT X X.length = perT xs (k + 1) by rw [hXl, ← hX, perT_take _ (Nat.le_refl _)])
      have HX1 : Hid (ArgI wr (.slice (some ⟨g1, 0, none⟩) (k + 1) (k + 1)) X) := Lib.hid (by rw [← hX]; exact (H.out.later hB).take (k + 1) (by omega) hk1)
      have HY1 : Hid (ArgI wr (.slice (some ⟨g2, 0, none⟩) (k + 1) (k + 1)) (ys.take (k + 1))) := Lib.hid ((H2.out.later hB).take (k + 1) (by omega) hk2)
      have HYL := Lib.hid (show (ys.take (k + 1)).length ≤ 6 by simp; omega)
      obtain ⟨c, hc⟩ : ∃ c : Nat → Bool, c = fun j => decide (teethL X (S + j * P) X.length = L) := ⟨_, rfl⟩
      have hcj : ∀ j, (c j = true ↔ ∀ q, q < k + 1 → ((tn xs q : Nat) : Int) ∣ ((S + j * P : Nat) : Int) - cT ys q) := fun j => by
        rw [hc, ← hq, decide_eq_true_eq, ← hL, hX, hXl]
      have HCC := Lib.hid (fun i => show decide (teethL X (S + i * P) X.length = L) = c i by rw [hc])
      have HLE := Lib.hid hL
      have kk1 : (k : Int) + 1 ≤ cap := by omega
      have kk2 : (k : Int) + 1 ≤ cap2 := by omega
      clear t1 hk1 hk2
      cases hf : (List.range t).find? c with
      | none =>
        have hbf : b = false := by
          cases hbv : b with
          | false => rfl
          | true =>
            obtain ⟨j, hj, hd⟩ := hnx (HB.out.1 hbv)
            rw [htt] at hj
            rw [hPP] at hd
            have := (List.find?_range_eq_none.1 hf) j hj
            rw [(hcj j).2 hd] at this
            simp at this
        subst hbf
        have HF := Lib.hid hf
        clear hf hcj hc hnx hq htt hPP hX hL hXl
        go_wp2_with (first
          | (go_at_call 46; (refine (reaches_any _ _ _ _ _ _ HY1.out HYL.out).mono ?_); rintro e w1 ⟨rfl, c1, hA1, hz1, hb1⟩; have KC := Lib.hid c1; have KA := Lib.hid hA1; clear c1 hA1)
          | (go_at_call 45; (refine (stepReach S P t wr.heap.size (wr.heap.size + 1) _ X L c _ (by omega) (by omega) (by omega) KC.out (by rw [← HLE.out]; exact KA.out) (HX1.out.later hb1) HXW.out HLL.out (fun i _ => HCC.out i)).mono ?_); rintro e w2 ⟨rfl, hb2⟩; rw [HF.out]; dsimp only [stepV, Option.isSome]))
        go_ret2
        exact ⟨rfl, hB.trans ((hb1.trans (hb2.mono hb1.size)).mono hz)⟩
      | some j =>
        rw [List.find?_range_eq_some] at hf
        obtain ⟨hj1, hj2, _⟩ := id hf
        have hjt := List.mem_range.1 hj2
        have HF := Lib.hid (show (List.range t).find? c = some j from List.find?_range_eq_some.2 hf)
        have HDN := Lib.hid ((hcj j).1 hj1)
        have hSN := pow_next hS hP1 hjt t3
        have hSN2 := pow_bd hSN (by omega)
        obtain ⟨S', hS'⟩ : ∃ S', S + j * P = S' := ⟨_, rfl⟩
        rw [hS'] at hSN hSN2 HDN
        have HS' := Lib.hid (show ((S + j * P : Nat) : Int) = (S' : Int) by rw [hS'])
        have HSN := Lib.hid hSN
        clear hf hj1 hj2 hcj hc hnx hq htt hPP hX hL hXl hS' hSN
        go_wp2_with (first
          | (go_at_call 46; (refine (reaches_any _ _ _ _ _ _ HY1.out HYL.out).mono ?_); rintro e w1 ⟨rfl, c1, hA1, hz1, hb1⟩; have KC := Lib.hid c1; have KA := Lib.hid hA1; clear c1 hA1)
          | (go_at_call 45; (refine (stepReach S P t wr.heap.size (wr.heap.size + 1) _ X L c _ (by omega) (by omega) (by omega) KC.out (by rw [← HLE.out]; exact KA.out) (HX1.out.later hb1) HXW.out HLL.out (fun i _ => HCC.out i)).mono ?_); rintro e w2 ⟨rfl, hb2⟩; rw [HF.out]; dsimp only [stepV, Option.isSome]; rw [HS'.out])
          | (go_at_call 43; (refine (periodOf_any _ X _ (HX1.out.later (hb1.trans (hb2.mono hb1.size))) HXW.out).mono ?_); rintro e w3 ⟨rfl, hb3⟩; rw [HPN.out]))
        go_roundw
        case rel => exact ⟨k + 1, S', by omega, by go_num, rfl, rfl, HSN.out, HDN, hB.trans (((hb1.trans (hb2.mono hb1.size)).trans (hb3.mono (Nat.le_trans hb1.size hb2.size))).mono hz)⟩
        case measure => simp [intOf]; omega
    · obtain rfl : k = n := by omega
      have hbt : b = true := HB.out.2 (agree_reached (S := S) (fun q hq => HD.out q (by rw [HN.out] at hq; exact hq)))
      subst hbt
      go_wp2
      go_ret2
      exact ⟨rfl, hB⟩

end Go.Proofs.Ytnnhjnogebicbab
