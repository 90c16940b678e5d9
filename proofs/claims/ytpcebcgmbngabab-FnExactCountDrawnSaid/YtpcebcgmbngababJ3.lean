/- Loops: what a loop is, by the model. -/
import Derived.Test.YtpcebcgmbngababJ2
namespace Go.Proofs.Ytpcebcgmbngabab
open Go.RowKit
set_option linter.unusedVariables false

theorem txL_inj {a b : List UInt8} (h : txL a = txL b) : a = b := by
  have := congrArg (fun x : ByteArray => x.data.toList) h
  simpa [txL] using this

theorem goodL_long {L : List UInt8} (h : 16 < L.length) : goodL L = false := by
  rw [Bool.eq_false_iff]
  intro e
  have := (goodL_iff L).1 e
  omega

theorem goodL_odd {L : List UInt8} (h : ¬ L.length % 2 = 0) : goodL L = false := by
  rw [Bool.eq_false_iff]
  intro e
  exact h ((goodL_iff L).1 e).2.1

theorem goodL_cnt {L : List UInt8} {k : Nat} (hk : k < L.length) (h : ¬ cntL L (L.getD k 0) = 2) : goodL L = false := by
  rw [Bool.eq_false_iff]
  intro e
  exact h (((goodL_iff L).1 e).2.2.1 k hk)

set_option maxHeartbeats 2000000 in
set_option maxRecDepth 100000 in
theorem loGood_any (t : ByteArray) (w : World) (ht : t.size ≤ 1048576) :
    Calls Try.prog 53 #[.string t] w fun e w' => e = .returned (.bool (goodL t.data.toList)) ∧ Below w.heap.size w w' := by
  have hlen := tx_len t
  by_cases h16 : 16 < t.size
  · rw [goodL_long (by omega)]
    have hd : decide ((16 : Int) < (t.size : Int)) = true := by simp; omega
    clear hlen
    go_enter Try.func53, Try.ntmps53
    go_wp2
    go_ret
    exact ⟨rfl, Below.refl _ _⟩
  · have hd : decide ((16 : Int) < (t.size : Int)) = false := by simp; omega
    have hw : IntKind.i64.wrap (t.size : Int) = (t.size : Int) := by rw [IntKind.wrap_i64]; omega
    have hm : Int.tmod (t.size : Int) 2 = ((t.size % 2 : Nat) : Int) := by rw [Int.tmod_eq_emod_of_nonneg (by omega)]; omega
    have hw2 : IntKind.i64.wrap ((t.size % 2 : Nat) : Int) = ((t.size % 2 : Nat) : Int) := by rw [IntKind.wrap_i64]; omega
    obtain ⟨q, hq⟩ : ∃ q, t.size % 2 = q := ⟨_, rfl⟩
    have hm2 : Int.tmod (t.size : Int) 2 = (q : Int) := by rw [hm, hq]
    by_cases h2 : q = 0
    · subst h2
      have HQ := Lib.hid hq
      clear hm hw2 hq
      have HT := Lib.hid (fun k (h : k < t.size) => tx_get t k h)
      have HC := Lib.hid (fun c i => show cntTo t.data.toList c (i + 1) = cntTo t.data.toList c i + (if t.data.toList.getD i 0 = c then 1 else 0) from rfl)
      have HC0 := Lib.hid (fun c => show cntTo t.data.toList c 0 = 0 from rfl)
      have HLE := Lib.hid (fun c i => show cntTo t.data.toList c i ≤ i by
        induction i with
        | zero => exact Nat.le_refl _
        | succ i ih => rw [cntTo]; split <;> omega)
      have HCL := Lib.hid (fun c => show cntL t.data.toList c = cntTo t.data.toList c t.size by unfold cntL; rw [hlen])
      have HGOOD := Lib.hid (fun (h1 : ∀ j, j < t.size → cntTo t.data.toList (t.data.toList.getD j 0) t.size = 2) => show goodL t.data.toList = (anewL t.data.toList == t.data.toList) by
        rw [Bool.eq_iff_iff, goodL_iff, beq_iff_eq]
        exact ⟨fun h => h.2.2.2, fun h => ⟨by omega, by rw [hlen]; exact HQ.out, fun i hi => by rw [HCL.out]; exact h1 i (by omega), h⟩⟩)
      have HBAD := Lib.hid (fun k (hk : k < t.size) (h1 : ¬ cntTo t.data.toList (t.data.toList.getD k 0) t.size = 2) => goodL_cnt (L := t.data.toList) (k := k) (by omega) (by rw [HCL.out]; exact h1))
      obtain ⟨G, hG⟩ : ∃ G : Nat → UInt8, (fun i => t.data.toList.getD i 0) = G := ⟨_, rfl⟩
      have HG := Lib.hid (fun i => show t.data.toList.getD i 0 = G i from congrFun hG i)
      clear hG hlen
      go_enter Try.func53, Try.ntmps53
      go_wp2
      go_loopw [3] (fun i wr => ∃ k : Nat, k ≤ t.size ∧ i = .int .i64 k ∧ Hid (∀ j, j < k → cntTo t.data.toList (G j) t.size = 2) ∧ Below w.heap.size w wr) (fun i _ => t.size - (intOf i).toNat)
      case atStart => exact ⟨0, by omega, rfl, Lib.hid (fun j hj => by omega), Below.refl _ _⟩
      case round =>
        obtain ⟨wo, rfl⟩ : ∃ z, z = wr := ⟨wr, rfl⟩
        obtain ⟨k, hk, rfl, HJ, hB⟩ := hrel
        have HB := Lib.hid hB
        clear hB
        by_cases hlt : k < t.size
        · obtain ⟨d, hd2⟩ : ∃ d, (t[k]'hlt).toNat = d := ⟨_, rfl⟩
          have HD2 := Lib.hid (show (G k).toNat = d by rw [← hd2, HT.out k hlt, HG.out])
          obtain ⟨C, hC⟩ : ∃ C : Nat → Nat, (fun i => cntTo t.data.toList (G k) i) = C := ⟨_, rfl⟩
          have HCC := Lib.hid (fun i => show cntTo t.data.toList (G k) i = C i from congrFun hC i)
          clear hC
          have hk0 : 0 ≤ (k : Int) := by omega
          have hk1 : (k : Int) < (t.size : Int) := by omega
          go_wp2
          go_loopw [4, 5] (fun a q wr => ∃ m : Nat, m ≤ t.size ∧ q = .int .i64 m ∧ a = .int .i64 (C m : Int) ∧ Below w.heap.size w wr) (fun _ q _ => t.size - (intOf q).toNat)
          case atStart => exact ⟨0, by omega, rfl, by rw [← HCC.out, HC0.out]; rfl, HB.out⟩
          case round =>
            obtain ⟨m, hm, rfl, rfl, hB2⟩ := hrel
            have HB2 := Lib.hid hB2
            clear hB2
            by_cases hml : m < t.size
            · obtain ⟨y, hy⟩ : ∃ y, (t[m]'hml).toNat = y := ⟨_, rfl⟩
              have HY := Lib.hid (show (G m).toNat = y by rw [← hy, HT.out m hml, HG.out])
              have hm0 : 0 ≤ (m : Int) := by omega
              have hm1 : (m : Int) < (t.size : Int) := by omega
              have hle := HLE.out (G k) m
              rw [HCC.out] at hle
              by_cases hyd : y = d
              · have HV := Lib.hid (show C (m + 1) = C m + 1 by rw [← HCC.out, HC.out, HCC.out, HG.out, if_pos (UInt8.toNat_inj.1 (by rw [HY.out, HD2.out, hyd]))])
                subst hyd
                obtain ⟨c, hc⟩ : ∃ c, C m = c := ⟨_, rfl⟩
                rw [hc] at HV hle ⊢
                clear hc
                go_wp2
                go_quiet (fail)
                go_wp2
                go_roundw
                case rel => exact ⟨m + 1, by omega, by go_num, by rw [HV.out]; go_num, by first | exact bdn HB2.out _ | exact HB2.out⟩
                case measure => simp [intOf]; omega
              · have HV := Lib.hid (show C (m + 1) = C m by rw [← HCC.out, HC.out, HCC.out, HG.out, if_neg (fun e => hyd (by rw [← HY.out, ← HD2.out, e]))]; rfl)
                have hyd2 : ¬ (y : Int) = (d : Int) := by omega
                obtain ⟨c, hc⟩ : ∃ c, C m = c := ⟨_, rfl⟩
                rw [hc] at HV hle ⊢
                clear hc
                go_wp2
                go_quiet (fail)
                go_wp2
                go_roundw
                case rel => exact ⟨m + 1, by omega, by go_num, by rw [HV.out], by first | exact bdn HB2.out _ | exact HB2.out⟩
                case measure => simp [intOf]; omega
            · obtain rfl : m = t.size := by omega
              obtain ⟨c, hc⟩ : ∃ c, C t.size = c := ⟨_, rfl⟩
              rw [hc]
              by_cases hc2 : c = 2
              · subst hc2
                have HJ2 := Lib.hid (show ∀ j, j < k + 1 → cntTo t.data.toList (G j) t.size = 2 from fun j hj => by
                  rcases Nat.lt_or_ge j k with h1 | h1
                  · exact HJ.out j h1
                  · obtain rfl : j = k := by omega
                    rw [HCC.out, hc])
                clear hc
                go_wp2
                go_roundw
                case rel => exact ⟨k + 1, by omega, by go_num, HJ2, HB2.out⟩
                case measure => simp [intOf]; omega
              · have hne : ((c : Int) == 2) = false := beq_eq_false_iff_ne.2 (by omega)
                have hne2 : ((c : Int) != 2) = true := bne_iff_ne.2 (by omega)
                have hgb := HBAD.out k hlt (by rw [HG.out, HCC.out, hc]; exact hc2)
                have HGB := Lib.hid hgb
                clear hc hgb
                go_wp2
                go_ret
                exact ⟨by rw [HGB.out]; rfl, HB2.out⟩
        · obtain rfl : k = t.size := by omega
          have hgg := HGOOD.out (fun j hj => by rw [HG.out]; exact HJ.out j hj)
          have HGG := Lib.hid hgg
          obtain ⟨R, hR⟩ : ∃ R, anewL t.data.toList = R := ⟨_, rfl⟩
          have HR := Lib.hid hR
          clear hR hgg
          have heq : (R == t.data.toList) = ((txL R).toList == t.toList) := by rw [ByteArray.toList_eq, ByteArray.toList_eq]; rfl
          obtain ⟨U, hU⟩ : ∃ U, txL R = U := ⟨_, rfl⟩
          rw [hU] at heq
          have HU := Lib.hid hU
          have HEQ := Lib.hid heq
          clear hU heq
          go_wp2_with (first | (go_at_call 80; (with_reducible refine (loAnew_any t _ (by omega)).mono ?_); rintro e w1 ⟨rfl, hb1⟩; have hB1 := HB.out.trans (hb1.mono HB.out.size); (rw [HR.out, HU.out])))
          go_ret
          exact ⟨by rw [HGG.out, HR.out, HEQ.out]; rfl, hB1⟩
    · have hq1 : q = 1 := by omega
      subst hq1
      rw [goodL_odd (by omega)]
      clear hm hw2 hq hlen
      go_enter Try.func53, Try.ntmps53
      go_wp2
      go_ret
      exact ⟨rfl, Below.refl _ _⟩

end Go.Proofs.Ytpcebcgmbngabab
