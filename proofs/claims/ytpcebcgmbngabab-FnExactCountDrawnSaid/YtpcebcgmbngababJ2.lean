/- Loops: texts named anew, and what a loop is, by the model. -/
import Derived.Test.YtpcebcgmbngababJ1
import Derived.Test.YtpcebcgmbngababW1
import Derived.Deep.RegionHeld3
namespace Go.Proofs.Ytpcebcgmbngabab
open Go.RowKit
set_option linter.unusedVariables false

def txL (l : List UInt8) : ByteArray := ⟨l.toArray⟩

theorem txL_size (l : List UInt8) : (txL l).size = l.length := by simp [txL, ByteArray.size]

theorem txL_append (a b : List UInt8) : txL a ++ txL b = txL (a ++ b) := by
  apply ByteArray.ext
  rw [ByteArray.data_append]
  simp [txL]

theorem txL_list (t : ByteArray) : txL t.data.toList = t := rfl

theorem txL_get (l : List UInt8) (k : Nat) (h : k < (txL l).size) : (txL l)[k] = l.getD k 0 := by
  have h2 : k < l.length := by rwa [txL_size] at h
  rw [List.getD, List.getElem?_eq_getElem h2]
  rfl

theorem tx_get (t : ByteArray) (k : Nat) (h : k < t.size) : t[k] = t.data.toList.getD k 0 := by
  have h1 : k < t.data.toList.length := by rw [Array.length_toList]; exact h
  rw [List.getD, List.getElem?_eq_getElem h1]
  rfl

theorem tx_len (t : ByteArray) : t.data.toList.length = t.size := Array.length_toList

theorem tx_one (t : ByteArray) (k : Nat) (h : k < t.size) : t.extract k (k + 1) = txL [t.data.toList.getD k 0] := by
  apply ByteArray.ext
  apply Array.toList_inj.1
  rw [ByteArray.data_extract, Array.toList_extract, List.extract_eq_take_drop]
  have h1 : k < t.data.toList.length := by rw [Array.length_toList]; exact h
  rw [List.drop_eq_getElem_cons h1, show k + 1 - k = 1 by omega, List.getD, List.getElem?_eq_getElem h1]
  simp [txL]

theorem txAdd (a b : ByteArray) (h : a.size + b.size ≤ 1000000000) : Op.stringOp .add a b = pure (.string (a ++ b)) := by
  have e : ¬ (((a.size + b.size : Nat) : Int) > IntKind.i64.max) := by
    have : IntKind.i64.max = 9223372036854775807 := by decide +kernel
    omega
  unfold Op.stringOp
  simp only [if_neg e]

theorem abc_one : ∀ k : Fin 16, (⟨#[97, 98, 99, 100, 101, 102, 103, 104, 105, 106, 107, 108, 109, 110, 111, 112]⟩ : ByteArray).extract k.1 (k.1 + 1) = txL [lt8 k.1] := by decide +kernel

set_option maxHeartbeats 2000000 in
set_option maxRecDepth 100000 in
theorem loAnew_any (t : ByteArray) (w : World) (ht : t.size ≤ 16) :
    Calls Try.prog 80 #[.string t] w fun e w' => e = .returned (.string (txL (anewL t.data.toList))) ∧ Below w.heap.size w w' := by
  have hlen := tx_len t
  have HA := Lib.hid (fun i => (anewTo_len t.data.toList i))
  have HS := Lib.hid (fun i => show anewTo t.data.toList (i + 1) = (if t.data.toList.getD i 0 ∈ (anewTo t.data.toList i).1 then (anewTo t.data.toList i).1 else (anewTo t.data.toList i).1 ++ [t.data.toList.getD i 0], (anewTo t.data.toList i).2 ++ [lt8 ((anewTo t.data.toList i).1.idxOf (t.data.toList.getD i 0))]) from rfl)
  have H0 : anewTo t.data.toList 0 = ([], []) := rfl
  have HE : Hid (anewL t.data.toList = (anewTo t.data.toList t.size).2) := Lib.hid (by unfold anewL; rw [hlen])
  have HT := Lib.hid (fun k (h : k < t.size) => And.intro (tx_get t k h) (tx_one t k h))
  obtain ⟨R, hR⟩ : ∃ R, anewL t.data.toList = R := ⟨_, rfl⟩
  obtain ⟨F, hF⟩ : ∃ F, anewTo t.data.toList = F := ⟨_, rfl⟩
  obtain ⟨G, hG⟩ : ∃ G : Nat → UInt8, (fun i => t.data.toList.getD i 0) = G := ⟨_, rfl⟩
  have HG := Lib.hid (fun i => show t.data.toList.getD i 0 = G i from congrFun hG i)
  rw [hF] at HA HS H0 HE
  rw [hR] at HE ⊢
  clear hF hR hG hlen
  go_enter Try.func80, Try.ntmps80
  go_wp2
  go_loopw [3, 4, 5] (fun n o i wr => ∃ k : Nat, k ≤ t.size ∧ i = .int .i64 k ∧ n = .string (txL (F k).1) ∧ o = .string (txL (F k).2) ∧ Below w.heap.size w wr) (fun _ _ i _ => t.size - (intOf i).toNat)
  case atStart => exact ⟨0, by omega, rfl, by rw [H0]; rfl, by rw [H0]; rfl, Below.refl _ _⟩
  case round =>
    obtain ⟨wo, rfl⟩ : ∃ z, z = wr := ⟨wr, rfl⟩
    obtain ⟨k, hk, rfl, rfl, rfl, hB⟩ := hrel
    by_cases hlt : k < t.size
    · obtain ⟨ho, hn, hd⟩ := HA.out k
      have hs := HS.out k
      obtain ⟨hg, hx⟩ := HT.out k hlt
      rw [HG.out k] at hs hg hx
      obtain ⟨S, hS⟩ : ∃ S, F k = S := ⟨_, rfl⟩
      rw [hS] at ho hn hd hs
      obtain ⟨ns, out⟩ := S
      simp only at ho hn hd hs
      have HF := Lib.hid hS
      obtain ⟨c, hc⟩ : ∃ c, G k = c := ⟨_, rfl⟩
      rw [hc] at hs hg hx
      have HK := Lib.hid hs
      have HX := Lib.hid hx
      have HD := Lib.hid hd
      have HB := Lib.hid hB
      obtain ⟨x, hix⟩ : ∃ x, ns.idxOf c = x := ⟨_, rfl⟩
      have HI := Lib.hid hix
      have hxl : x ≤ ns.length := by rw [← hix]; exact List.idxOf_le_length
      obtain ⟨n, hnl⟩ : ∃ n, ns.length = n := ⟨_, rfl⟩
      obtain ⟨d, hd2⟩ : ∃ d, c.toNat = d := ⟨_, rfl⟩
      have HD2 := Lib.hid hd2
      have htd : (t[k]'hlt).toNat = d := by rw [hg]; exact hd2
      have hzn := txL_size ns
      have hzo := txL_size out
      obtain ⟨N, hN⟩ : ∃ N, txL ns = N := ⟨_, rfl⟩
      obtain ⟨O, hO⟩ : ∃ O, txL out = O := ⟨_, rfl⟩
      have HNN := Lib.hid hN
      have HOO := Lib.hid hO
      rw [hN, hnl] at hzn
      rw [hO, ho] at hzo
      rw [hnl] at hxl hn
      have HNL := Lib.hid hnl
      rw [hS]
      simp only
      rw [hN, hO]
      clear hs hx hd hB hix hd2 hg hN hO hS hc hnl ho
      go_wp2
      go_loopw [6, 7] (fun a q wr => ∃ m : Nat, m ≤ n ∧ q = .int .i64 m ∧ a = .int .i64 (if x < m then (x : Int) else -1) ∧ Below w.heap.size w wr) (fun _ q _ => n - (intOf q).toNat)
      case atStart => exact ⟨0, by omega, rfl, rfl, HB.out⟩
      case round =>
        obtain ⟨m, hm, rfl, rfl, hB2⟩ := hrel
        by_cases hmn : m < n
        · have hml : m < N.size := by omega
          have hnl := HNL.out
          have hgm := txL_get ns m (by rw [HNN.out]; exact hml)
          obtain ⟨y, hy⟩ : ∃ y, (N[m]'hml).toNat = y := ⟨_, rfl⟩
          have hgy : (ns.getD m 0).toNat = y := by rw [← hgm, ← hy]; congr 1; simp only [HNN.out]
          have hm0 : 0 ≤ (m : Int) := by omega
          have hm1 : (m : Int) < (n : Int) := by omega
          have hk0 : 0 ≤ (k : Int) := by omega
          have hk1 : (k : Int) < (t.size : Int) := by omega
          have hcm : ns.getD m 0 = c ↔ x = m := by
            constructor
            · intro e
              rw [← HI.out, ← e, List.getD, List.getElem?_eq_getElem (by omega)]
              exact List.Nodup.idxOf_getElem HD.out m (by omega)
            · intro e
              have hl2 : ns.idxOf c < ns.length := by rw [HI.out]; omega
              have hl3 := List.getElem_idxOf hl2
              simp only [HI.out, e] at hl3
              rw [List.getD, List.getElem?_eq_getElem (by omega)]
              exact hl3
          have HCM := Lib.hid hcm
          clear hgm hnl
          by_cases hyd : y = d
          · have hxm : x = m := HCM.out.1 (UInt8.toNat_inj.1 (by rw [hgy, HD2.out, hyd]))
            have HV := Lib.hid (show (m : Int) = (if x < m + 1 then (x : Int) else -1) by rw [if_pos (by omega)]; omega)
            obtain ⟨v, hv⟩ : ∃ v, (if x < m then (x : Int) else -1) = v := ⟨_, rfl⟩
            rw [hv]
            subst hyd
            clear hcm hgy hxm hv
            go_wp2
            go_quiet (fail)
            go_wp2
            go_roundw
            case rel => exact ⟨m + 1, by omega, by go_num, by rw [← HV.out], by first | exact bdn hB2 _ | exact hB2⟩
            case measure => simp [intOf]; omega
          · have hxm : ¬ x = m := fun e => hyd (by rw [← hgy, HCM.out.2 e, HD2.out])
            have HV := Lib.hid (show (if x < m then (x : Int) else -1) = (if x < m + 1 then (x : Int) else -1) by
              by_cases e : x < m
              · rw [if_pos e, if_pos (by omega)]
              · rw [if_neg e, if_neg (by omega)])
            obtain ⟨v, hv⟩ : ∃ v, (if x < m then (x : Int) else -1) = v := ⟨_, rfl⟩
            rw [hv] at HV ⊢
            have hyd2 : ¬ (y : Int) = (d : Int) := by omega
            clear hcm hgy hxm hv
            go_wp2
            go_quiet (fail)
            go_wp2
            go_roundw
            case rel => exact ⟨m + 1, by omega, by go_num, by rw [← HV.out], by first | exact bdn hB2 _ | exact hB2⟩
            case measure => simp [intOf]; omega
        · obtain rfl : m = n := by omega
          have hnl := HNL.out
          have HB2 := Lib.hid hB2
          have hx16 : x < 16 := by omega
          have hab := abc_one ⟨x, hx16⟩
          simp only at hab
          have hadd := txAdd O ((⟨#[97, 98, 99, 100, 101, 102, 103, 104, 105, 106, 107, 108, 109, 110, 111, 112]⟩ : ByteArray).extract x (x + 1)) (by rw [hab, txL_size]; simp; omega)
          rw [show O ++ (⟨#[97, 98, 99, 100, 101, 102, 103, 104, 105, 106, 107, 108, 109, 110, 111, 112]⟩ : ByteArray).extract x (x + 1) = txL (out ++ [lt8 x]) by rw [hab, ← HOO.out, txL_append]] at hadd
          have hx0 : 0 ≤ (x : Int) := by omega
          have hwx : IntKind.i64.wrap ((x : Int) + 1) = (x : Int) + 1 := by rw [IntKind.wrap_i64]; omega
          have hwk : IntKind.i64.wrap ((k : Int) + 1) = (k : Int) + 1 := by rw [IntKind.wrap_i64]; omega
          clear hab hB2
          by_cases hin : x < m
          · have hmem : c ∈ ns := by
              rw [← List.idxOf_lt_length_iff, HI.out]; omega
            have HE2 : Hid (F (k + 1) = (ns, out ++ [lt8 x])) := Lib.hid (by rw [HK.out, if_pos hmem, HI.out])
            rw [if_pos hin]
            have hx2 : ¬ (x : Int) < 0 := by omega
            clear hmem hnl
            go_wp2
            go_roundw
            case rel => exact ⟨k + 1, by omega, by go_num, by rw [HE2.out, ← HNN.out], by rw [HE2.out], HB2.out⟩
            case measure => simp [intOf]; omega
          · have hmem : c ∉ ns := by
              rw [← List.idxOf_lt_length_iff, HI.out]; omega
            have HE2 : Hid (F (k + 1) = (ns ++ [c], out ++ [lt8 x])) := Lib.hid (by rw [HK.out, if_neg hmem, HI.out])
            obtain rfl : x = m := by omega
            rw [if_neg hin]
            have hadd2 := txAdd N (t.extract k (k + 1)) (by rw [HX.out, txL_size]; simp; omega)
            rw [show N ++ t.extract k (k + 1) = txL (ns ++ [c]) by rw [HX.out, ← HNN.out, txL_append]] at hadd2
            clear hmem hnl
            go_wp2
            go_roundw
            case rel => exact ⟨k + 1, by omega, by go_num, by rw [HE2.out], by rw [HE2.out], HB2.out⟩
            case measure => simp [intOf]; omega
    · obtain rfl : k = t.size := by omega
      go_wp2
      go_ret
      exact ⟨by rw [HE.out]; rfl, hB⟩

end Go.Proofs.Ytpcebcgmbngabab
