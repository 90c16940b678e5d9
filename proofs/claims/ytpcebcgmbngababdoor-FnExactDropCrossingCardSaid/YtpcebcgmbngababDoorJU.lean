/- Texts named anew and shifted: the program's namedAnew, shifted. -/
import Derived.Test.YtpcebcgmbngababDoorJN
namespace Go.Proofs.YtpcebcgmbngababDoor
open Go.RowKit
set_option linter.unusedVariables false

theorem mix_get (out L : List UInt8) (k : Nat) (h : out.length = k) : (out ++ L.drop k).getD k 0 = L.getD k 0 := by
  rw [getD_apps, if_neg (by omega), h, Nat.sub_self, List.getD, List.getElem?_drop, Nat.add_zero]
  rfl

theorem mix_set (out L : List UInt8) (k : Nat) (x : UInt8) (h : out.length = k) (hk : k < L.length) : (out ++ L.drop k).set k x = (out ++ [x]) ++ L.drop (k + 1) := by
  rw [List.set_append_right _ _ (by omega), h, Nat.sub_self, List.drop_eq_getElem_cons hk, List.set_cons_zero, List.append_assoc]
  rfl

theorem letterOf_lt8 (k : Nat) (w : World) (h : k < 100) :
    Calls Tryd.prog 15 #[.int .i64 k] w fun e w' => e = .returned (.int .u8 ((lt8 k).toNat : Int)) ∧ w = w' := by
  rw [lt8_nat k h]
  exact letterOf_any k w h

set_option maxHeartbeats 4000000 in
set_option maxRecDepth 100000 in
theorem namedAnew_any (t : ByteArray) (w : World) (ht : t.size ≤ 16) :
    Calls Tryd.prog 11 #[.string t] w fun e w' => e = .returned (.string (txL (anewL t.data.toList))) ∧ Below w.heap.size w w' := by
  have hlen := tx_len t
  obtain ⟨capF, WF, hcv0, hWF⟩ := bytes_made t (by omega)
  have hcv := hcv0 w
  obtain ⟨hS0, hB0, hz0, hc1, hc2⟩ := hWF w
  obtain ⟨W1, hW1⟩ : ∃ W1, WF w = W1 := ⟨_, rfl⟩
  obtain ⟨cap, hcap⟩ : ∃ cap, capF w = cap := ⟨_, rfl⟩
  rw [hW1, hcap] at hcv
  rw [hW1] at hS0 hB0 hz0
  rw [hcap] at hS0 hc1 hc2
  have HA := Lib.hid (fun i => anewTo_len t.data.toList i)
  have HS := Lib.hid (fun i => show anewTo t.data.toList (i + 1) = (if t.data.toList.getD i 0 ∈ (anewTo t.data.toList i).1 then (anewTo t.data.toList i).1 else (anewTo t.data.toList i).1 ++ [t.data.toList.getD i 0], (anewTo t.data.toList i).2 ++ [lt8 ((anewTo t.data.toList i).1.idxOf (t.data.toList.getD i 0))]) from rfl)
  have H0 : anewTo t.data.toList 0 = ([], []) := rfl
  have HE : Hid (anewL t.data.toList = (anewTo t.data.toList t.size).2) := Lib.hid (by unfold anewL; rw [hlen])
  have HLEN := Lib.hid hlen
  obtain ⟨R, hR⟩ : ∃ R, anewL t.data.toList = R := ⟨_, rfl⟩
  obtain ⟨F, hF⟩ : ∃ F, anewTo t.data.toList = F := ⟨_, rfl⟩
  rw [hF] at HA HS H0 HE
  rw [hR] at HE ⊢
  have HS0 := Lib.hid hS0
  have HB0 := Lib.hid hB0
  obtain ⟨n, hn⟩ : ∃ n, t.size = n := ⟨_, rfl⟩
  rw [hn] at HE hc1 ht hcv
  rw [hn] at HLEN
  unfold maxLen at hc2
  clear hF hR hlen hW1 hcap hcv0 hWF hS0 hB0 hn
  go_enter Tryd.func11, Tryd.ntmps11
  go_wp2
  clear hcv
  go_loopw [3, 12] (fun o i wr => ∃ k : Nat, k ≤ n ∧ i = .int .i64 k ∧ ByO wr (w.heap.size + 1) o (F k).1 ∧ ByW wr w.heap.size cap ((F k).2 ++ t.data.toList.drop k) ∧ Below w.heap.size w wr ∧ w.heap.size + 1 ≤ wr.heap.size) (fun _ i _ => n - (intOf i).toNat)
  case atStart => exact ⟨0, by omega, rfl, by rw [H0]; exact ByO.nil _ _, by rw [H0]; exact HS0.out, HB0.out, by omega⟩
  case round =>
    obtain ⟨k, hk, rfl, hJ, hS, hB, hz⟩ := hrel
    have HB := Lib.hid hB
    clear hB
    by_cases hlt : k < n
    · obtain ⟨hol, hnl, hnd⟩ := HA.out k
      have hst := HS.out k
      obtain ⟨S, hSk⟩ : ∃ S, F k = S := ⟨_, rfl⟩
      rw [hSk] at hol hnl hst hJ hS
      obtain ⟨ns, out⟩ := S
      simp only at hol hnl hst hJ hS
      obtain ⟨c, hcc⟩ : ∃ c, t.data.toList.getD k 0 = c := ⟨_, rfl⟩
      have hkL : k < (out ++ t.data.toList.drop k).length := by rw [List.length_append, List.length_drop, HLEN.out]; omega
      have hcell := hS.2.2.1 k hkL
      rw [mix_get out _ k hol, hcc] at hcell
      have hset := mix_set out t.data.toList k (lt8 (ns.idxOf c)) hol (by rw [HLEN.out]; exact hlt)
      rw [hcc] at hst
      obtain ⟨q, hq⟩ : ∃ q, ns.idxOf c = q := ⟨_, rfl⟩
      rw [hq] at hst hset
      obtain ⟨m, hm⟩ : ∃ m, ns.length = m := ⟨_, rfl⟩
      have hqm16 : q ≤ m := by rw [← hq, ← hm]; exact List.idxOf_le_length
      have hmem : c ∈ ns ↔ q < m := by rw [← hq, ← hm]; exact List.idxOf_lt_length_iff.symm
      have HM := Lib.hid hm
      rw [hm] at hnl
      obtain ⟨a2, c2, g2, rfl, ha2, hn2, hm2, hg2, hc3, -⟩ := hJ.view
      rw [hm] at hJ ha2 hn2 hc3 hg2 ⊢
      obtain ⟨d, hd⟩ : ∃ d, c.toNat = d := ⟨_, rfl⟩
      have HIDX := fun v (hv : (if q < m then (q : Int) else -1) = v) => show Calls Tryd.prog 14 #[.slice a2 m c2, .int .u8 d] wr fun e w' => e = .returned (.int .i64 v) ∧ wr = w' by
        have := indexB_any a2 g2 m c2 ns c wr hm (by omega) ha2 hc3
        rw [hq, hv, hd] at this
        exact this
      obtain ⟨y, hy⟩ : ∃ y, lt8 q = y := ⟨_, rfl⟩
      have HLET := Lib.hid (fun Wo => show Calls Tryd.prog 15 #[.int .i64 q] Wo fun e w' => e = .returned (.int .u8 (y.toNat : Int)) ∧ Wo = w' by rw [← hy]; exact letterOf_lt8 q Wo (by omega))
      rw [hy] at hst hset
      have hf := (hS.2.2.2 k (by omega)).2
      have HK := Lib.hid hkL
      have HSS := Lib.hid hS
      have HJ := Lib.hid hJ
      have HST := Lib.hid hset
      have k0 : 0 ≤ (k : Int) := by omega
      have k1 : (k : Int) < (n : Int) := by omega
      by_cases hqm : q < m
      · have hnx : F (k + 1) = (ns, out ++ [y]) := by rw [hst, if_pos (hmem.2 hqm)]
        have HNX := Lib.hid hnx
        have hIX := HIDX q (if_pos hqm)
        have HIX := Lib.hid hIX
        have q0 : ¬ (q : Int) < 0 := by omega
        rw [hd] at hcell
        clear hst hset hS hJ hmem HIDX hIX hnx hq hm hnl hy hc3 ha2 hnd hcc hd hSk hkL hol hqm16
        go_wp2_with (first
          | (go_at_call 14; (with_reducible refine HIX.out.mono ?_); rintro e w1 ⟨rfl, rfl⟩)
          | (go_at_call 15; (with_reducible refine (HLET.out _).mono ?_); rintro e w1 ⟨rfl, rfl⟩))
        go_roundw
        case rel => exact ⟨k + 1, by omega, by go_num, by rw [HNX.out]; exact HJ.out.beside (Nat.lt_succ_self _) _, by rw [HNX.out]; simp only; rw [← HST.out]; exact HSS.out.stored k y HK.out, HB.out.setCell (Nat.le_refl _) _, by simp; omega⟩
        case measure => simp [intOf]; omega
      · have hnx : F (k + 1) = (ns ++ [c], out ++ [y]) := by rw [hst, if_neg (fun e => hqm (hmem.1 e))]
        have HNX := Lib.hid hnx
        have hIX := HIDX (-1) (if_neg hqm)
        obtain rfl : q = m := by omega
        have HIX := Lib.hid hIX
        clear hst hset hS hJ hmem HIDX hIX hnx hq hm hy hc3 ha2 hnd hcc hSk hkL hol hqm16
        subst hd
        go_wp2_with (first
          | (go_at_call 14; (with_reducible refine HIX.out.mono ?_); rintro e w1 ⟨rfl, rfl⟩)
          | (go_at_call 15; (with_reducible refine (HLET.out _).mono ?_); rintro e w1 ⟨rfl, rfl⟩)
          | (at_builtin; refine wpList_append_byte rfl _ _ rfl (w.heap.size + 1) _ ns q HM.out.symm rfl HJ.out c _ rfl rfl (by omega) hz ?_; intro g4 cap4 w4 hJ4 hg4 hl4; ((have hz4 := hg4.size); (have hS4 := HSS.out.grown hg4 (fun e => absurd ((HJ.out.own w.heap.size e).1) (Nat.not_succ_le_self _))); (have HB4 := Lib.hid (HB.out.grown hg4 (by omega) (fun k hk => by have := (HJ.out.own k hk).1; omega))); (have hcell4 := hS4.2.2.1 k HK.out); (have hf4 := (hS4.2.2.2 k (by omega)).2); (have HS4 := Lib.hid hS4); (have HJ4 := Lib.hid hJ4); clear hJ4 hg4 hl4 hS4)))
        go_roundw
        case rel => exact ⟨k + 1, by omega, by go_num, by rw [HNX.out]; exact HJ4.out.beside (Nat.lt_succ_self _) _, by rw [HNX.out]; simp only; rw [← HST.out]; exact HS4.out.stored k y HK.out, HB4.out.setCell (Nat.le_refl _) _, by simp; omega⟩
        case measure => simp [intOf]; omega
    · obtain rfl : k = n := by omega
      have hL : (F k).2 ++ t.data.toList.drop k = R := by rw [List.drop_eq_nil_of_le (by rw [HLEN.out]; exact Nat.le_refl _), List.append_nil, HE.out]
      rw [hL] at hS
      have hback := bytes_back hS k cap (by rw [HE.out, (HA.out k).1])
      clear hS hL hJ
      go_wp2
      go_ret
      exact ⟨rfl, HB.out⟩

end Go.Proofs.YtpcebcgmbngababDoor
