/- What the laws do with slices of slices of integers. -/
import Derived.Test.YtpliaenpencocabV0
import Derived.Test.YtpliaenpencocabBA
namespace Go.Proofs.Ytpliaenpencocab
open Go.RowKit

set_option maxHeartbeats 400000 in
theorem eqIntSS_same (v1 v2 : Value) (xss : List (List Int)) (eo B1 T1 B2 T2 : Nat) (e : TypeId) (w : World) (h1 : RowsIn eo e w B1 T1 v1 xss) (h2 : RowsIn eo e w B2 T2 v2 xss) :
    Calls Try.prog 17 #[v1, v2] w fun e w' => e = .returned (.bool true) ∧ ∃ q, w' = w.drewN q := by
  obtain ⟨vs1, h1⟩ := h1
  obtain ⟨vs2, h2⟩ := h2
  obtain ⟨a1, c1, g1, rfl, ha1, hm, hc1, _⟩ := h1.view
  obtain ⟨a2, c2, g2, rfl, ha2, _, hc2, _⟩ := h2.view
  unfold maxLen at hm
  have HC1 := Lib.hid hc1
  have HC2 := Lib.hid hc2
  have HA1 := Lib.hid ha1
  have HA2 := Lib.hid ha2
  have H1 := Lib.hid h1
  have H2 := Lib.hid h2
  clear hc1 hc2 ha1 ha2 h1 h2
  go_enter Try.func17, Try.ntmps17
  go_wp2
  go_loopw [5] (fun i wr => ∃ k q : Nat, k ≤ xss.length ∧ i = .int .i64 k ∧ wr = w.drewN q) (fun i _ => xss.length - (intOf i).toNat)
  case atStart => exact ⟨0, 0, by omega, rfl, rfl⟩
  case round =>
    obtain ⟨k, q, hk, rfl, rfl⟩ := hrel
    by_cases hlt : k < xss.length
    · obtain rfl := HA1.out (by omega)
      obtain rfl := HA2.out (by omega)
      have cc1 := HC1.out k hlt
      have cc2 := HC2.out k hlt
      have r1 := Lib.hid (H1.out.rows k hlt)
      have r2 := Lib.hid (H2.out.rows k hlt)
      generalize vs1.getD k (.slice none 0 0) = u1 at *
      generalize vs2.getD k (.slice none 0 0) = u2 at *
      generalize xss.getD k [] = ys at *
      have hi1 : 0 ≤ (k : Int) := by omega
      go_wp2
      go_quiet ((go_at_call 24; exact quiet2 (eqIntS_same u1 u2 ys _ _ _ _ (r1.out.ints.drewN _) (r2.out.ints.drewN _))))
      go_wp2
      go_roundw
      case rel => exact ⟨k + 1, q + nq, by omega, by go_num, by simp⟩
      case measure => simp [intOf]; omega
    · go_wp2
      go_ret
      exact ⟨rfl, q, rfl⟩

set_option maxHeartbeats 400000 in
theorem markIntSS_in (v : Value) (xss : List (List Int)) (m : Int) (eo e : TypeId) (B T : Nat) (w : World) (h : RowsIn eo e w B T v xss) (hne : eo ≠ e) (hm1 : 0 ≤ m) (hm2 : m ≤ 1000000) (hn : cellsOf xss ≤ 1000000) (hr : xss.length ≤ 1000000) :
    Calls Try.prog 20 #[v, .int .i64 m] w fun e' w' => e' = .returned (.int .i64 (m + cellsOf xss)) ∧ RowsIn eo e w' B T v (markedRows m xss xss.length) ∧ Only B T w w' := by
  obtain ⟨vs, h⟩ := h
  obtain ⟨a1, c1, g1, rfl, ha1, _, hc1, _⟩ := h.view
  have HH := Lib.hid h
  have HC := Lib.hid hc1
  have HA := Lib.hid ha1
  have HO := Lib.hid (offs_all m xss)
  clear h hc1 ha1
  go_enter Try.func20, Try.ntmps20
  go_wp2
  go_loopw [1, 5] (fun u i wr => ∃ k : Nat, k ≤ xss.length ∧ i = .int .i64 k ∧ u = .int .i64 (offs m xss k) ∧ RowsAt eo e wr B T (.slice a1 xss.length c1) vs (markedRows m xss k) ∧ Only B T w wr) (fun _ i _ => xss.length - (intOf i).toNat)
  case atStart => exact ⟨0, by omega, rfl, by rw [offs_zero], HH.out, Only.refl _ _ _⟩
  case round =>
    obtain ⟨k, hk, rfl, rfl, hR, ho⟩ := hrel
    by_cases hlt : k < xss.length
    · obtain rfl := HA.out (by omega)
      obtain ⟨b0, b1, b2, hv, hb0, _, hc1, _⟩ := hR.view
      rw [markedRows_length] at hv hb0 hc1
      obtain rfl : b2 = g1 := by
        have e1 := hb0 (by omega)
        rw [e1] at hv
        simp at hv
        exact hv.1.symm
      have cc := hc1 k hlt
      have rk := hR.rows k (by rw [markedRows_length]; exact hlt)
      rw [markedRows_later m xss k k (Nat.le_refl _)] at rk
      have r1 := Lib.hid rk
      have r2 := row_le xss k hlt
      have o1 := Lib.hid (offs_succ m xss k hlt)
      have ol := offs_le m xss k
      have HR := Lib.hid hR
      have HMK : Hid (markedRows m xss (k + 1) = (markedRows m xss k).set k (marks (offs m xss k) (xss.getD k []).length)) := Lib.hid rfl
      have hkl : k < (markedRows m xss k).length := by rw [markedRows_length]; exact hlt
      have HKL := Lib.hid hkl
      clear rk hR hv hb0 hc1 hkl
      obtain ⟨u1, hu⟩ : ∃ u, u = vs.getD k (.slice none 0 0) := ⟨_, rfl⟩
      rw [← hu] at cc r1
      have HU := Lib.hid hu
      obtain ⟨ol1, ol2⟩ := ol
      obtain ⟨z, hz⟩ : ∃ z, z = offs m xss k := ⟨_, rfl⟩
      rw [← hz] at ol1 ol2 o1 HMK ⊢
      obtain ⟨ys, hys⟩ : ∃ ys, ys = xss.getD k [] := ⟨_, rfl⟩
      rw [← hys] at r1 r2 o1 HMK
      clear hu hz hys
      go_wp2_with (go_at_call 25; (with_reducible refine (markIntS_any u1 _ z _ _ _ r1.out.ints (by omega) (by omega) (by omega)).mono ?_); rintro e w1 ⟨rfl, hI, hg⟩)
      have hI' : Ints w1 B e (vs.getD k (.slice none 0 0)) (marks z ys.length) := by rw [← HU.out]; exact hI
      have hg' : wr.grownBy w1 (vs.getD k (.slice none 0 0)).ownBlock := by rw [← HU.out]; exact hg
      have hown := r1.out.own
      have HN := Lib.hid (HR.out.wrote hne HKL.out hI' hg')
      have HO2 := ho.trans (Only.of_grown hg hown)
      go_roundw
      case rel => exact ⟨k + 1, by omega, by go_num, by rw [← o1.out], by rw [HMK.out]; exact HN.out, HO2⟩
      case measure => simp [intOf]; omega
    · obtain rfl : k = xss.length := by omega
      rw [HO.out]
      go_wp2
      go_ret
      exact ⟨rfl, ⟨vs, hR⟩, ho⟩

set_option maxHeartbeats 400000 in
theorem heldIntSS_marks (v : Value) (xss : List (List Int)) (m : Int) (eo e : TypeId) (B T : Nat) (w : World) (h : RowsIn eo e w B T v (markedRows m xss xss.length)) (hm1 : 0 ≤ m) (hm2 : m ≤ 1000000) (hn : cellsOf xss ≤ 1000000) (hr : xss.length ≤ 1000000) :
    Calls Try.prog 21 #[v, .int .i64 m] w fun e' w' => e' = .returned (.int .i64 (m + cellsOf xss)) ∧ w = w' := by
  obtain ⟨vs, h⟩ := h
  obtain ⟨a1, c1, g1, rfl, ha1, _, hc1, _⟩ := h.view
  have HH := Lib.hid h
  have HO := Lib.hid (offs_all m xss)
  rw [markedRows_length] at ha1 hc1 ⊢
  have HC := Lib.hid hc1
  have HA := Lib.hid ha1
  clear h hc1 ha1
  go_enter Try.func21, Try.ntmps21
  go_wp2
  go_loop [1, 5] (fun u i => ∃ k : Nat, k ≤ xss.length ∧ i = .int .i64 k ∧ u = .int .i64 (offs m xss k)) (fun _ i => xss.length - (intOf i).toNat)
  case atStart => exact ⟨0, by omega, rfl, by rw [offs_zero]⟩
  case round =>
    obtain ⟨k, hk, rfl, rfl⟩ := hrel
    have ol := offs_le m xss k
    by_cases hlt : k < xss.length
    · obtain rfl := HA.out (by omega)
      have cc := HC.out k hlt
      have rk := HH.out.rows k (by rw [markedRows_length]; exact hlt)
      rw [markedRows_get m xss _ k hlt hlt] at rk
      have r1 := Lib.hid rk
      have r2 := row_le xss k hlt
      have o1 := Lib.hid (offs_succ m xss k hlt)
      have ol2 := offs_le m xss (k + 1)
      generalize vs.getD k (.slice none 0 0) = u1 at *
      generalize (xss.getD k []).length = n at *
      clear rk
      obtain ⟨ol1, _⟩ := ol
      generalize hoo : offs m xss k = z at *
      clear hoo
      go_wp2_with (go_at_call 26; (with_reducible refine (heldIntS_marks u1 z n _ _ _ r1.out.ints (by omega) (by omega) (by omega)).mono ?_); rintro e w1 ⟨rfl, rfl⟩)
      go_round
      case rel => exact ⟨k + 1, by omega, by go_num, by rw [← o1.out]⟩
      case measure => simp [intOf]; omega
    · obtain rfl : k = xss.length := by omega
      rw [HO.out]
      go_wp2
      go_ret
      exact ⟨rfl, rfl⟩

end Go.Proofs.Ytpliaenpencocab
