/- Pairings by crossings: the model's recursion; the law. -/
import Derived.Test.YtnnhjnogebicbabQF
import Derived.Test.YtnnhjnogebicbabQE
namespace Go.Proofs.Ytnnhjnogebicbab
open Go.RowKit
set_option linter.unusedVariables false

theorem set_back {U : List Bool} {i : Nat} (hi : i < U.length) (h : U.getD i false = false) : (U.set i true).set i false = U := by
  rw [List.set_set]
  refine List.ext_getElem? fun j => ?_
  rw [List.getElem?_set]
  by_cases e : i = j
  · subst e
    rw [if_pos rfl, if_pos hi]
    rw [List.getD, List.getElem?_eq_getElem hi] at h
    rw [List.getElem?_eq_getElem hi]
    simpa using h.symm
  · rw [if_neg e]

theorem getD_setB {U : List Bool} {i j : Nat} (x : Bool) (h : j ≠ i) : (U.set i x).getD j false = U.getD j false := by
  rw [List.getD, List.getD, List.getElem?_set, if_neg (fun e => h e.symm)]

set_option maxHeartbeats 4000000 in
theorem cd_step (n f : Nat) (c : Int) (hn : n ≤ 12) (ih : CdSaid n f c) (gu : Nat) (U : List Bool) (L : List (Int × Int)) (v : Value) (B T : Nat) (w : World) (hU : U.length = n) (hfr : freeF U ≤ f + 1) (hLf : L.length + (f + 1) ≤ 12) (hc : ∀ k, k < L.length → (L.getD k (0, 0)).1 < (L.getD k (0, 0)).2)
    (hb : BoolsAt w gu U) (hP : PairsIn 64 w B T v L) (hT : T ≤ w.heap.size) (hg : gu < B ∨ T ≤ gu) (hf : ¬ firstF U n = n) :
    Calls Try.prog 47 #[.int .i64 n, .int .i64 c, .slice (some ⟨gu, 0, none⟩) n n, v] w fun e w' => e = .returned (.int .i64 (cdT n c (f + 1) U L : Nat)) ∧ Below w.heap.size w w' := by
  have hgl := hb.lt
  obtain ⟨i, hi⟩ : ∃ i, firstF U n = i := ⟨_, rfl⟩
  obtain ⟨hs, hs2⟩ := firstF_spec (U := U) (n := n)
  have hle := firstF_le U n
  rw [hi] at hs hs2 hle hf
  have hin : i < n := by omega
  have hUi := hs2 hin
  have hU1 : (U.set i true).length = n := by rw [List.length_set]; exact hU
  have hf1 := freeF_set (U := U) (j := i) (by omega) hUi
  obtain ⟨g, hgg⟩ : ∃ g : Nat → Nat, (fun j => if i < j ∧ U.getD j false = false then cdT n c f ((U.set i true).set j true) (L ++ [((i : Int), (j : Int))]) else 0) = g := ⟨_, rfl⟩
  have hval : cdT n c (f + 1) U L = sumN g n := by
    rw [cdT, ← hgg]
    simp only [hi]
    rw [if_neg hf]
  rw [hval]
  have gle : ∀ j, g j ≤ 13 ^ 12 := fun j => by
    rw [← hgg]
    simp only
    split
    · exact Nat.le_trans (cdT_le n c f _ _) (Nat.le_trans (Nat.pow_le_pow_left (by omega) f) (Nat.pow_le_pow_right (by omega) (by omega)))
    · exact Nat.zero_le _
  have hz0 : sumN g (i + 1) = 0 := by
    have := sumN_le g 0 (i + 1) fun j hj => by rw [← hgg]; simp only; rw [if_neg (by omega)]; exact Nat.le_refl _
    omega
  have GT := Lib.hid (fun j (hj : U.getD j false = true) => show g j = 0 by rw [← hgg]; simp only; rw [if_neg (by rw [hj]; simp)])
  have I : Hid (∀ (j : Nat) (v' : Value) (B' T' : Nat) (W : World), i < j → j < n → U.getD j false = false → BoolsAt W gu ((U.set i true).set j true) → PairsIn 64 W B' T' v' (L ++ [((i : Int), (j : Int))]) → T' ≤ W.heap.size → (gu < B' ∨ T' ≤ gu) →
      Calls Try.prog 47 #[.int .i64 n, .int .i64 c, .slice (some ⟨gu, 0, none⟩) n n, v'] W fun e w' => e = .returned (.int .i64 (g j : Nat)) ∧ Below W.heap.size W w') := Lib.hid (fun j v' B' T' W h1 h2 h3 h4 h5 h6 h7 => by
    have e : g j = cdT n c f ((U.set i true).set j true) (L ++ [((i : Int), (j : Int))]) := by rw [← hgg]; simp only; rw [if_pos ⟨h1, h3⟩]
    rw [e]
    have hf2 := freeF_set (U := U.set i true) (j := j) (by rw [hU1]; exact h2) (by rw [getD_setB _ (by omega)]; exact h3)
    refine ih gu _ _ v' B' T' W (by rw [List.length_set]; exact hU1) (by omega) (by simp; omega) (fun k hk => ?_) h4 h5 h6 h7
    rw [List.length_append, List.length_singleton] at hk
    rcases Nat.lt_or_ge k L.length with hk1 | hk1
    · rw [List.getD, List.getElem?_append_left hk1, ← List.getD]
      exact hc k hk1
    · obtain rfl : k = L.length := by omega
      rw [List.getD, List.getElem?_append_right (Nat.le_refl _), Nat.sub_self]
      simp
      omega)
  have HS := Lib.hid (fun j (hj : j < i) => show w.cell? ⟨gu, j, none⟩ = some (.bool true) by rw [hb.cell j (by omega), hs j hj])
  have ci : w.cell? ⟨gu, i, none⟩ = some (.bool false) := by rw [hb.cell i (by omega), hUi]
  have fi := hb.frozen i
  have HGL := Lib.hid (fun j => gle j)
  have HSL := Lib.hid (fun m => sumN_le g (13 ^ 12) m fun j _ => gle j)
  have HBK := Lib.hid (set_back (U := U) (i := i) (by omega) hUi)
  have HB0 := Lib.hid hb
  have HB1 := Lib.hid (hb.stored i true)
  have HP := Lib.hid hP
  have HL12 : L.length ≤ 12 := by omega
  have e0 : ((i : Int) == (n : Int)) = false := beq_eq_false_iff_ne.2 (by omega)
  have hd : T ≤ gu ∨ gu + 1 ≤ B := by omega
  have HU := Lib.hid hU
  have HU1 := Lib.hid hU1
  have HGJ := Lib.hid (fun j x (h : j ≠ i) => getD_setB (U := U) (i := i) (j := j) x h)
  clear hval gle hs hs2 hgg hf1 ih hb hP hUi hc hi hU hU1 hfr hLf hg
  obtain ⟨U1, hU1e⟩ : ∃ U1, U.set i true = U1 := ⟨_, rfl⟩
  rw [hU1e] at I HBK HB1 HU1
  have HGJ1 := Lib.hid (fun j (h : j ≠ i) => show U1.getD j false = U.getD j false by rw [← hU1e]; exact HGJ.out j true h)
  clear hU1e HGJ
  have ii0 : (0 : Int) ≤ (i : Int) := by omega
  have iin : (i : Int) < (n : Int) := by omega
  go_enter Try.func47, Try.ntmps47
  go_wp2
  go_loop [9] (fun u => ∃ k : Nat, k ≤ i ∧ u = .int .i64 k) (fun u => n - (intOf u).toNat)
  case atStart => exact ⟨0, by omega, rfl⟩
  case round =>
    obtain ⟨k, hk, rfl⟩ := hrel
    by_cases hlt : k < i
    · have cc := HS.out k hlt
      go_wp2
      go_round
      case rel => exact ⟨k + 1, by omega, by go_num⟩
      case measure => simp [intOf]; omega
    · obtain rfl : k = i := by omega
      go_wp2
      go_loopw [10, 11] (fun s o wr => ∃ j : Nat, k < j ∧ j ≤ n ∧ o = .int .i64 j ∧ s = .int .i64 (sumN g j : Nat) ∧ Only gu (gu + 1) w wr ∧ BoolsAt wr gu U1) (fun _ o _ => n - (intOf o).toNat)
      case atStart => exact ⟨k + 1, by omega, by omega, by go_num, by rw [hz0]; rfl, onlySet (Only.refl _ _ _) ⟨Nat.le_refl _, by omega⟩ k _, HB1.out⟩
      case round =>
        obtain ⟨j, hkj, hj, rfl, rfl, hO, hA⟩ := hrel
        by_cases hlj : j < n
        · have cj := hA.cell j (by rw [HU1.out]; exact hlj)
          have s1 := HSL.out j
          have s2 := HGL.out j
          have hsN : sumN g (j + 1) = sumN g j + g j := rfl
          have j0 : (0 : Int) ≤ (j : Int) := by omega
          have jn : (j : Int) < (n : Int) := by omega
          cases hv : U.getD j false with
          | true =>
            rw [HGJ1.out j (by omega), hv] at cj
            have HN := Lib.hid (show sumN g (j + 1) = sumN g j by rw [hsN, GT.out j hv]; rfl)
            clear s1 s2 hsN hv
            generalize sumN g j = X at HN ⊢
            go_wp2
            go_roundw
            case rel => exact ⟨j + 1, by omega, by omega, by go_num, by rw [HN.out], hO, hA⟩
            case measure => simp [intOf]; omega
          | false =>
            rw [HGJ1.out j (by omega), hv] at cj
            have fj := hA.frozen j
            have hz := hO.size
            have hzz : (wr.setCell ⟨gu, j, none⟩ (.bool true)).heap.size = wr.heap.size := by simp
            have HA2 := Lib.hid (hA.stored j true)
            have hO1 := onlySet hO ⟨Nat.le_refl _, Nat.lt_succ_self _⟩ j (.bool true)
            have HO1 := Lib.hid hO1
            have hbA : Below (wr.setCell ⟨gu, j, none⟩ (.bool true)).heap.size (wr.setCell ⟨gu, j, none⟩ (.bool true)) ((wr.setCell ⟨gu, j, none⟩ (.bool true)).alloc (.cells #[] 64)) := (Below.refl _ _).alloc (Nat.le_refl _) _
            have HBA : Hid (Below wr.heap.size (wr.setCell ⟨gu, j, none⟩ (.bool true)) ((wr.setCell ⟨gu, j, none⟩ (.bool true)).alloc (.cells #[] 64))) := Lib.hid (hbA.mono (by rw [hzz]; exact Nat.le_refl _))
            have SR := Lib.hid (((HP.out.keep ((onlyBelow hO1 hbA).same_in hT hd)).1).src)
            have PB : Hid (Pairs ((wr.setCell ⟨gu, j, none⟩ (.bool true)).alloc (.cells #[] 64)) wr.heap.size 64 (.slice (some ⟨wr.heap.size, 0, none⟩) 0 0) []) := Lib.hid (by
              have := Pairs.boxed (wr.setCell ⟨gu, j, none⟩ (.bool true)) wr.heap.size 64 [] (by simp) (by simp)
              simpa [flatP] using this)
            have zA : wr.heap.size ≤ ((wr.setCell ⟨gu, j, none⟩ (.bool true)).alloc (.cells #[] 64)).heap.size := by simp
            have HV := Lib.hid hv
            have HS2 := Lib.hid (show (U1.set j true).set j false = U1 from set_back (by rw [HU1.out]; exact hlj) (by rw [HGJ1.out j (by omega), hv]))
            have HJL := Lib.hid (show j < (U1.set j true).length by rw [List.length_set, HU1.out]; exact hlj)
            have ggu : gu < wr.heap.size := by omega
            obtain ⟨X, hX⟩ : ∃ X, sumN g j = X := ⟨_, rfl⟩
            obtain ⟨Y, hY⟩ : ∃ Y, g j = Y := ⟨_, rfl⟩
            have IJ := Lib.hid (fun v' B' T' W h4 h5 h6 h7 => I.out j v' B' T' W hkj hlj hv h4 h5 h6 h7)
            rw [hY] at IJ s2 hsN
            rw [hX] at s1 hsN ⊢
            have x1 : X ≤ 12 * 13 ^ 12 := Nat.le_trans s1 (Nat.mul_le_mul_right _ (by omega))
            have HN := Lib.hid hsN
            clear hsN hX hY hv s1 hO hA hO1 hbA hzz
            go_wp2_with (first
              | (at_builtin; refine wpList_append_pairs rfl _ _ 41 rfl wr.heap.size 64 Try.underlying41 info_chordQ _ _ [] L rfl rfl PB.out SR.out (by simp; omega) zA ?_; intro v1 w1 hP1 hg1 _; rw [List.nil_append] at hP1; have HP1 := Lib.hid hP1; have HBq1 := Lib.hid (Pairs.below PB.out HBA.out zA hg1); have z1 := HBq1.out.size; simp only [World.size_setCell] at z1; clear hP1 hg1)
              | (at_builtin; refine wpList_append_pair rfl _ _ 41 rfl wr.heap.size 64 Try.underlying41 info_chordQ _ L rfl HP1.out k j rfl (by omega) z1 ?_; intro v2 w2 hP2 hg2; have HP2 := Lib.hid hP2; have HBq2 := Lib.hid (Pairs.below HP1.out HBq1.out z1 hg2); have z2 := HBq2.out.size; simp only [World.size_setCell] at z2; have HA4 : Hid (BoolsAt w2 gu (U1.set j true)) := Lib.hid ((HBq2.out.block gu ggu).trans HA2.out); clear hP2 hg2)
              | (go_at_call 47; (refine (IJ.out _ wr.heap.size w2.heap.size w2 HA4.out HP2.out.inn (Nat.le_refl _) (.inl ggu)).mono ?_); rintro e w3 ⟨rfl, hb3⟩; have HA5 := Lib.hid (HA4.out.keep hb3); have d5 := HA5.out.cell j HJL.out; have f5 := HA5.out.frozen j; have HO3 : Hid (Only gu (gu + 1) w w3) := Lib.hid (onlyBelow (onlyBelow HO1.out (HBq2.out.mono (by simp))) hb3); generalize (U1.set j true).getD j false = old at d5; clear hb3))
            go_roundw
            case rel => exact ⟨j + 1, by omega, by omega, by go_num, by rw [HN.out]; go_num, onlySet HO3.out ⟨Nat.le_refl _, Nat.lt_succ_self _⟩ j _, by rw [← HS2.out]; exact HA5.out.stored j false⟩
            case measure => simp [intOf]; omega
        · obtain rfl : j = n := by omega
          have ck := hA.cell k (by rw [HU1.out]; omega)
          have fk := hA.frozen k
          generalize U1.getD k false = old at ck
          have HE := Lib.hid (show BoolsAt (wr.setCell ⟨gu, k, none⟩ (.bool false)) gu U by rw [← HBK.out]; exact hA.stored k false)
          have HO9 := Lib.hid (onlySet hO ⟨Nat.le_refl _, Nat.lt_succ_self _⟩ k (.bool false))
          clear hA hO
          go_wp2
          go_ret
          exact ⟨rfl, below_back HO9.out HB0.out HE.out⟩

theorem cd_any (n : Nat) (c : Int) (hn : n ≤ 12) : ∀ f, CdSaid n f c
  | 0 => fun gu U L v B T w hU hfr hL hc hb hP hT hg => by
    have hf : firstF U n = n := by
      refine Classical.byContradiction fun h => ?_
      have h1 := firstF_le U n
      have h2 := (firstF_spec (U := U) (n := n)).2 (by omega)
      have := freeF_set (U := U) (j := firstF U n) (by omega) h2
      omega
    exact cd_leaf n c gu U L v B T w hn hU hf (by omega) hc hb hP hT
  | f + 1 => fun gu U L v B T w hU hfr hL hc hb hP hT hg => by
    by_cases hf : firstF U n = n
    · have e : cdT n c (f + 1) U L = (if (pairsC L : Int) = c then 1 else 0) := by
        rw [cdT, if_pos hf]
      rw [e]
      exact cd_leaf n c gu U L v B T w hn hU hf (by omega) hc hb hP hT
    · exact cd_step n f c hn (cd_any n c hn f) gu U L v B T w hU hfr hL hc hb hP hT hg hf

end Go.Proofs.Ytnnhjnogebicbab
