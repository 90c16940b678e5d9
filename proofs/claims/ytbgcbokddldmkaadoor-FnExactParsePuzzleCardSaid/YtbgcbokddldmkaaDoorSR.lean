/- Numbers that texts tell: the model's reader. -/
import Derived.Test.YtbgcbokddldmkaaDoorDN
import Derived.Test.YtbgcbokddldmkaaDoorW1
namespace Go.Proofs.YtbgcbokddldmkaaDoor
open Go.RowKit
set_option linter.unusedVariables false

theorem byte_get (t : ByteArray) (k : Nat) (h : k < t.size) : t.data.toList.getD k 0 = t[k] := by
  have h1 : k < t.data.toList.length := by rw [← Lib.size_eq]; exact h
  rw [List.getD, List.getElem?_eq_getElem h1]
  rfl

theorem all_take {l : List UInt8} {k : Nat} (hk : k < l.length) (h : (l.take k).all digitB = true) (hd : digitB (l.getD k 0) = true) : (l.take (k + 1)).all digitB = true := by
  rw [List.take_add_one, List.all_append, h, List.getElem?_eq_getElem hk]
  rw [List.getD, List.getElem?_eq_getElem hk] at hd
  simpa using hd

theorem not_all_digits {l : List UInt8} {k : Nat} (hk : k < l.length) (hd : digitB (l.getD k 0) = false) : l.all digitB = false := by
  rw [List.all_eq_false]
  refine ⟨l[k], List.getElem_mem hk, ?_⟩
  rw [List.getD, List.getElem?_eq_getElem hk] at hd
  simpa using hd

theorem valD_le (l : List UInt8) (h : l.all digitB = true) : ∀ k, k ≤ l.length → k ≤ 6 → valD (l.take k) < 10 ^ k
  | 0, _, _ => by simp [valD]
  | k + 1, hk, h6 => by
    have ih := valD_le l h k (by omega) (by omega)
    rw [valD_step l k (by omega), Nat.pow_succ]
    rw [List.all_eq_true] at h
    have := h (l.getD k 0) (by rw [List.getD, List.getElem?_eq_getElem (by omega)]; exact List.getElem_mem _)
    simp only [digitB, decide_eq_true_eq] at this
    omega

theorem valD_take (l : List UInt8) (k : Nat) (h : (l.take k).all digitB = true) (hk : k ≤ l.length) (h6 : k ≤ 6) : valD (l.take k) ≤ 999999 := by
  have := valD_le (l.take k) h k (by simp; omega) h6
  rw [List.take_take, Nat.min_self] at this
  have := Nat.pow_le_pow_right (show 0 < 10 by omega) h6
  omega

set_option maxHeartbeats 2000000 in
theorem l1Read_any (t : ByteArray) (w : World) (ht : t.size ≤ 1048576) :
    Calls Tryd.prog 84 #[.string t] w fun e w' => e = .returned (.int .i64 (readT t.data.toList)) ∧ w = w' := by
  have hsz := Lib.size_eq t
  by_cases h1 : 1 ≤ (t.size : Int) ∧ (t.size : Int) ≤ 6
  · have h0 : 0 < t.size := by omega
    obtain ⟨z, hz⟩ : ∃ z, (t[0]'h0).toNat = z := ⟨_, rfl⟩
    have g0 := byte_get t 0 h0
    have hz256 : z < 256 := by rw [← hz]; exact UInt8.toNat_lt _
    by_cases h2 : z = 48 ∧ 1 < t.size
    · have hr : readT t.data.toList = -1 := by
        unfold readT readB
        rw [if_neg]
        rw [Bool.and_eq_true, Bool.and_eq_true]
        rintro ⟨⟨_, hb⟩, _⟩
        rw [g0, ← hsz] at hb
        have : (t[0]'h0) = 48 := UInt8.toNat_inj.1 (by rw [hz]; exact h2.1)
        simp [this, h2.2] at hb
      rw [hr]
      obtain ⟨rfl, h22⟩ := h2
      have h23 : 1 < (t.size : Int) := by omega
      clear hr g0 hsz
      go_enter Tryd.func84, Tryd.ntmps84
      go_wp2_with (first | (go_at_call 61; (with_reducible refine (l1In_yes _ _ _ _ h1).mono ?_); rintro e w1 ⟨rfl, rfl⟩))
      go_ret
      exact ⟨rfl, rfl⟩
    · have hb0 : (decide (1 ≤ t.data.toList.length ∧ t.data.toList.length ≤ 6) && !(decide (t.data.toList.getD 0 0 = 48) && decide (1 < t.data.toList.length))) = true := by
        rw [g0, ← hsz]
        rw [Bool.and_eq_true, decide_eq_true_eq]
        refine ⟨by omega, ?_⟩
        rw [Bool.not_eq_true', Bool.and_eq_false_iff]
        rcases Classical.em (1 < t.size) with h3 | h3
        · left
          rw [decide_eq_false_iff_not]
          intro e
          have : z = 48 := by rw [← hz, e]; rfl
          exact h2 ⟨this, h3⟩
        · right
          simpa using h3
      have HRD := Lib.hid (show readT t.data.toList = if t.data.toList.all digitB then (valD t.data.toList : Int) else -1 by
        unfold readT readB
        rw [hb0, Bool.true_and])
      have HV := Lib.hid (fun k h hk h6 => valD_take t.data.toList k h hk h6)
      have HAT := Lib.hid (fun k hk h hd => all_take (l := t.data.toList) (k := k) hk h hd)
      have HND := Lib.hid (fun k hk hd => not_all_digits (l := t.data.toList) (k := k) hk hd)
      have HTL := Lib.hid (show t.data.toList.take t.size = t.data.toList by rw [hsz]; exact List.take_length)
      have HST := Lib.hid (fun k hk => valD_step t.data.toList k hk)
      have HG := Lib.hid (fun k hk => byte_get t k hk)
      have HSZ := Lib.hid hsz
      have h24 : (z : Int) ≠ 48 ∨ (z = 48 ∧ (t.size : Int) ≤ 1) := by omega
      clear hb0 hsz g0
      obtain ⟨l, hl⟩ : ∃ l, t.data.toList = l := ⟨_, rfl⟩
      rw [hl] at HRD HV HST HG HSZ HAT HND HTL ⊢
      clear hl
      obtain ⟨R, hR⟩ : ∃ R, readT l = R := ⟨_, rfl⟩
      rw [hR] at HRD ⊢
      clear hR
      rcases h24 with h24 | ⟨rfl, h24⟩
      all_goals
        go_enter Tryd.func84, Tryd.ntmps84
        go_wp2_with (first | (go_at_call 61; (with_reducible refine (l1In_yes _ _ _ _ h1).mono ?_); rintro e w1 ⟨rfl, rfl⟩))
        go_loop [3, 4] (fun n i => ∃ k : Nat, k ≤ t.size ∧ i = .int .i64 k ∧ n = .int .i64 (valD (l.take k) : Nat) ∧ Hid ((l.take k).all digitB = true)) (fun _ i => t.size - (intOf i).toNat)
        case atStart => exact ⟨0, by omega, rfl, rfl, Lib.hid (by simp)⟩
        case round =>
          obtain ⟨k, hk, rfl, rfl, HD⟩ := hrel
          by_cases hlt : k < t.size
          · obtain ⟨c, hc⟩ : ∃ c, (t[k]'hlt).toNat = c := ⟨_, rfl⟩
            have c256 : c < 256 := by rw [← hc]; exact UInt8.toNat_lt _
            have gk := HG.out k hlt
            have vk := HV.out k HD.out (by rw [← HSZ.out]; omega) (by omega)
            have sk := HST.out k (by rw [← HSZ.out]; exact hlt)
            rw [gk, hc] at sk
            have hdk : digitB (l.getD k 0) = decide (48 ≤ c ∧ c ≤ 57) := by rw [gk]; unfold digitB; rw [hc]
            obtain ⟨v, hv⟩ : ∃ v, valD (l.take k) = v := ⟨_, rfl⟩
            rw [hv] at vk sk ⊢
            by_cases hd : 48 ≤ c ∧ c ≤ 57
            · have HAT2 := Lib.hid (HAT.out k (by rw [← HSZ.out]; exact hlt) HD.out (by rw [hdk, decide_eq_true hd]))
              have HSK := Lib.hid sk
              obtain ⟨d1, d2⟩ := hd
              have d3 : ¬ (c : Int) < 48 := by omega
              have d4 : ¬ 57 < (c : Int) := by omega
              clear hdk gk hv sk
              go_wp2
              go_round
              case rel => exact ⟨k + 1, by omega, by go_num, by rw [HSK.out]; go_num, HAT2⟩
              case measure => simp [intOf]; omega
            · have hR : R = -1 := by
                rw [HRD.out, HND.out k (by rw [← HSZ.out]; exact hlt) (by rw [hdk, decide_eq_false hd])]
                rfl
              have HR := Lib.hid hR
              clear hdk gk hv sk hR
              by_cases d3 : (c : Int) < 48
              · go_wp2
                go_ret
                exact ⟨by rw [HR.out]; rfl, rfl⟩
              · have d4 : 57 < (c : Int) := by omega
                go_wp2
                go_ret
                exact ⟨by rw [HR.out]; rfl, rfl⟩
          · obtain rfl : k = t.size := by omega
            have hR : R = (valD (l.take t.size) : Int) := by
              rw [HRD.out]
              have := HD.out
              rw [HTL.out] at this ⊢
              rw [if_pos this]
            have HR := Lib.hid hR
            clear hR
            go_wp2
            go_ret
            exact ⟨by rw [HR.out]; rfl, rfl⟩
  · have hr : readT t.data.toList = -1 := by
      unfold readT readB
      rw [if_neg]
      rw [Bool.and_eq_true, Bool.and_eq_true, decide_eq_true_eq]
      rintro ⟨⟨hb, _⟩, _⟩
      omega
    rw [hr]
    clear hr hsz
    go_enter Tryd.func84, Tryd.ntmps84
    go_wp2_with (first | (go_at_call 61; (with_reducible refine (l1In_no _ _ _ _ h1).mono ?_); rintro e w1 ⟨rfl, rfl⟩))
    go_ret
    exact ⟨rfl, rfl⟩

end Go.Proofs.YtbgcbokddldmkaaDoor
