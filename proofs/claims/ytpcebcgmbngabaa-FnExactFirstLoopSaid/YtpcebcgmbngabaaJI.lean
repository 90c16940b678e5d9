/- Loops that are one: both sides, and the law of IsOneLoop. -/
import Derived.Test.YtpcebcgmbngabaaJH
import Derived.Lib.OthersKept
import Derived.Laws.RangeAny
namespace Go.Proofs.Ytpcebcgmbngabaa
open Go.RowKit
set_option linter.unusedVariables false

/-- The program's word: is no part of a turn a loop? -/
def oneTo (L : List UInt8) (k : Nat) : Bool := (List.range k).all fun i => (List.range (L.length - 1)).all fun e => !goodL ((anewL (rotL L i)).take (e + 1))

theorem oneTo_no {L : List UInt8} {K k e : Nat} (hk : k < K) (he : e + 1 < L.length) (h : goodL ((anewL (rotL L k)).take (e + 1)) = true) : oneTo L K = false := by
  rw [Bool.eq_false_iff]
  intro hall
  simp only [oneTo, List.all_eq_true, List.mem_range] at hall
  have := hall k hk e (by omega)
  rw [h] at this
  cases this

theorem oneTo_step {L : List UInt8} {k : Nat} (h : oneTo L k = true) (h2 : ∀ e, e + 1 < L.length → goodL ((anewL (rotL L k)).take (e + 1)) = false) : oneTo L (k + 1) = true := by
  simp only [oneTo, List.all_eq_true, List.mem_range] at h ⊢
  intro i hi e he
  by_cases e1 : i = k
  · subst e1
    rw [h2 e (by omega)]; rfl
  · exact h i (by omega) e he

theorem oneTo_same {L : List UInt8} (h16 : L.length ≤ 16) (hc : ∀ i, i < L.length → cntL L (L.getD i 0) = 2) : oneTo L (max L.length 1) = oneL L := by
  rw [Bool.eq_iff_iff]
  simp only [oneTo, oneL, List.all_eq_true, List.mem_range]
  have key : ∀ k e, e + 1 < L.length → goodL ((anewL (rotL L k)).take (e + 1)) = wholeL ((rotL L k).take (e + 1)) := by
    intro k e he
    have hl := rotL_length L k
    refine part_good (rotL L k) (e + 1) (by omega) (by omega) fun i hi => ?_
    rw [rotL_cnt]
    have hm : (rotL L k).getD i 0 ∈ L := by
      have : (rotL L k).getD i 0 ∈ rotL L k := by
        rw [List.getD, List.getElem?_eq_getElem hi]
        exact List.getElem_mem hi
      unfold rotL at this
      rw [List.mem_append] at this
      rcases this with h | h
      · exact List.mem_of_mem_drop h
      · exact List.mem_of_mem_take h
    obtain ⟨j, hj, e⟩ := List.mem_iff_getElem.1 hm
    have := hc j hj
    rw [List.getD, List.getElem?_eq_getElem hj] at this
    simp only [Option.getD_some] at this
    rw [← e]
    exact this
  constructor
  · intro h i hi e he
    rw [← key i e (by omega)]
    exact h i (by omega) e he
  · intro h i hi e he
    rw [key i e (by omega)]
    exact h i (by omega) e he

set_option maxHeartbeats 2000000 in
set_option maxRecDepth 100000 in
theorem isOne_any (t : ByteArray) (a0 : Option Addr) (n cap : Nat) (w : World) (ht : t.size ≤ 16) :
    Calls Try.prog 68 #[.agg #[.slice a0 n cap, .string t]] w fun e w' => e = .returned (.bool (oneTo t.data.toList (max t.size 1))) ∧ Below w.heap.size w w' := by
  have hlen := tx_len t
  have HTG := Lib.hid (fun k (h : k < max t.size 1) => turnsB_get t.data.toList k (by rw [hlen]; exact h))
  have HTL := Lib.hid (show (turnsB t.data.toList).length = max t.size 1 by rw [turnsB_length, hlen])
  have HNO := Lib.hid (fun k e (hk : k < max t.size 1) (he : e + 1 < t.size) h => oneTo_no (L := t.data.toList) (K := max t.size 1) (k := k) (e := e) hk (by rw [hlen]; exact he) h)
  have HST := Lib.hid (fun k h h2 => oneTo_step (L := t.data.toList) (k := k) h h2)
  have HAL := Lib.hid (fun k => show (anewL (rotL t.data.toList k)).length = t.size by rw [anewL_length, rotL_length, hlen])
  have HLEN := Lib.hid hlen
  obtain ⟨m, hm⟩ : ∃ m, max t.size 1 = m := ⟨_, rfl⟩
  rw [hm] at HTG HTL HNO ⊢
  obtain ⟨z, hz⟩ : ∃ z, t.size = z := ⟨_, rfl⟩
  rw [hz] at HNO HAL HLEN
  have HM := Lib.hid hm
  have HZ := Lib.hid hz
  have ht2 : z ≤ 16 := by omega
  have hm17 : m ≤ 17 := by omega
  clear hm hlen
  go_enter Try.func68, Try.ntmps68
  go_wp2_with (first | (go_at_call 79; (with_reducible refine (turnsOf_any t _ ht).mono ?_); rintro e w1 ⟨g, m1, rfl, hm1, hS, hg, hb1⟩; (obtain rfl : m1 = m := by rw [hm1]; exact HM.out); (have HS := Lib.hid hS); (have HB1 := Lib.hid (Below.trans (by go_grown) (hb1.mono (by simp)) : Below w.heap.size w w1)); clear hS hb1 hm1))
  go_loopw [10] (fun i wr => ∃ k : Nat, k ≤ m1 ∧ i = .int .i64 k ∧ Hid (oneTo t.data.toList k = true) ∧ Below w1.heap.size w1 wr) (fun i _ => m1 - (intOf i).toNat)
  case atStart => exact ⟨0, by omega, rfl, Lib.hid rfl, Below.refl _ _⟩
  case round =>
    obtain ⟨wo, rfl⟩ : ∃ z, z = wr := ⟨wr, rfl⟩
    obtain ⟨k, hk, rfl, HK, hB⟩ := hrel
    have HB := Lib.hid hB
    by_cases hlt : k < m1
    · have k0 : 0 ≤ (k : Int) := by omega
      have k1 : (k : Int) < (m1 : Int) := by omega
      have hc := (HS.out.keep hB).cell k (by rw [HTL.out]; exact hlt)
      rw [HTG.out k hlt] at hc
      have hXs : (txL (anewL (rotL t.data.toList k))).size = z := by rw [txL_size]; exact HAL.out k
      have HIS := Lib.hid (fun e W (he : e ≤ z) => show Calls Try.prog 16 #[.string ((txL (anewL (rotL t.data.toList k))).extract 0 e)] W fun en w' => en = .returned (.bool (goodL ((anewL (rotL t.data.toList k)).take e))) ∧ Below W.heap.size W w' by
        have := iIsLoop_any ((txL (anewL (rotL t.data.toList k))).extract 0 e) W (by rw [ByteArray.size_extract]; omega)
        rw [ext_list] at this
        exact this)
      obtain ⟨X, hX⟩ : ∃ X, txL (anewL (rotL t.data.toList k)) = X := ⟨_, rfl⟩
      rw [hX] at hc hXs HIS
      clear hB hX
      go_wp2
      go_loopw [5] (fun i wr => ∃ e : Nat, 1 ≤ e ∧ (e ≤ z ∨ e = 1) ∧ i = .int .i64 e ∧ Hid (∀ q, q + 1 < e → goodL ((anewL (rotL t.data.toList k)).take (q + 1)) = false) ∧ Below w1.heap.size w1 wr) (fun i _ => z + 1 - (intOf i).toNat)
      case atStart => exact ⟨1, by omega, .inr rfl, rfl, Lib.hid (fun q hq => by omega), HB.out⟩
      case round =>
        obtain ⟨e, he1, hez, rfl, HE, hB2⟩ := hrel
        have HB2 := Lib.hid hB2
        have hz2 := hB2.size
        clear hB2
        by_cases hlt2 : e < z
        · have e0 : 0 ≤ (e : Int) := by omega
          have e1 : (e : Int) ≤ (z : Int) := by omega
          have e2 : (e : Int) < (z : Int) := by omega
          have e3 : IntKind.i64.wrap ((e : Int) + 1) = (e : Int) + 1 := by rw [IntKind.wrap_i64]; omega
          cases hg2 : goodL ((anewL (rotL t.data.toList k)).take e) with
          | true =>
            have HG := Lib.hid hg2
            have HF := Lib.hid (HNO.out k (e - 1) hlt (by omega) (by rw [show e - 1 + 1 = e by omega]; exact hg2))
            clear hg2
            go_wp2_with (first | (go_at_call 16; (with_reducible refine (HIS.out e _ (by omega)).mono ?_); rintro en w3 ⟨rfl, hb3⟩; (rw [HG.out]); (have HB3 := Lib.hid (HB2.out.trans (hb3.mono hz2)))))
            go_ret
            exact ⟨by rw [HF.out]; rfl, HB1.out.trans (HB3.out.mono (HB1.out.size))⟩
          | false =>
            have HG := Lib.hid hg2
            clear hg2
            go_wp2_with (first | (go_at_call 16; (with_reducible refine (HIS.out e _ (by omega)).mono ?_); rintro en w3 ⟨rfl, hb3⟩; (rw [HG.out]); (have HB3 := Lib.hid (HB2.out.trans (hb3.mono hz2)))))
            go_roundw
            case rel => exact ⟨e + 1, by omega, .inl (by omega), by go_num, Lib.hid (fun q hq => by
              by_cases e4 : q + 1 = e
              · rw [e4]; exact HG.out
              · exact HE.out q (by omega)), HB3.out⟩
            case measure => simp [intOf]; omega
        · have e2 : ¬ (e : Int) < (z : Int) := by omega
          have HK2 := Lib.hid (HST.out k HK.out (fun q hq => HE.out q (by rw [HLEN.out] at hq; omega)))
          go_wp2
          go_roundw
          case rel => exact ⟨k + 1, by omega, by go_num, HK2, HB2.out⟩
          case measure => simp [intOf]; omega
    · obtain rfl : k = m1 := by omega
      go_wp2
      go_ret
      exact ⟨by rw [HK.out]; rfl, HB1.out.trans (HB.out.mono (HB1.out.size))⟩

theorem isOne_good (t : ByteArray) (a0 : Option Addr) (n cap : Nat) (w : World) (hg : goodL t.data.toList = true) :
    Calls Try.prog 68 #[.agg #[.slice a0 n cap, .string t]] w fun e w' => e = .returned (.bool (oneL t.data.toList)) ∧ Below w.heap.size w w' := by
  obtain ⟨g1, _, g3, _⟩ := (goodL_iff _).1 hg
  have h1 := isOne_any t a0 n cap w (by rw [← tx_len]; exact g1)
  rw [show oneTo t.data.toList (max t.size 1) = oneL t.data.toList by rw [← tx_len]; exact oneTo_same g1 g3] at h1
  exact h1

theorem plTo_cnt (L : List UInt8) (c : UInt8) : ∀ i, (cntTo L c i = 0 → (plTo L c i).1 = -1) ∧ (cntTo L c i = 1 → (plTo L c i).1 = (plTo L c i).2 ∧ 0 ≤ (plTo L c i).1) ∧ (2 ≤ cntTo L c i → (plTo L c i).1 < (plTo L c i).2 ∧ 0 ≤ (plTo L c i).1)
  | 0 => by simp [cntTo, plTo]
  | i + 1 => by
    obtain ⟨h0, h1, h2⟩ := plTo_cnt L c i
    obtain ⟨b1, b2, b3⟩ := plTo_bd L c i
    rw [cntTo, plTo]
    by_cases e : L.getD i 0 = c
    · rw [if_pos e, if_pos e]
      simp only
      by_cases hz : cntTo L c i = 0
      · have := h0 hz
        rw [if_pos (by omega)]
        omega
      · by_cases ho : cntTo L c i = 1
        · obtain ⟨g1, g2⟩ := h1 ho
          rw [if_neg (by omega)]
          omega
        · obtain ⟨g1, g2⟩ := h2 (by omega)
          rw [if_neg (by omega)]
          omega
    · rw [if_neg e, if_neg e, Nat.add_zero]
      exact ⟨h0, h1, h2⟩

theorem cnt_pos (L : List UInt8) (k : Nat) : ∀ i, k < i → 1 ≤ cntTo L (L.getD k 0) i
  | 0, h => by omega
  | i + 1, h => by
    rw [cntTo]
    by_cases e : k = i
    · subst e; rw [if_pos rfl]; omega
    · have := cnt_pos L k i (by omega); omega

theorem places_two (L : List UInt8) (k : Nat) (h : k < L.length) : (placesL L (L.getD k 0)).1 = (placesL L (L.getD k 0)).2 ↔ ¬ 2 ≤ cntL L (L.getD k 0) := by
  obtain ⟨h0, h1, h2⟩ := plTo_cnt L (L.getD k 0) L.length
  have hp := cnt_pos L k L.length h
  unfold placesL cntL
  constructor
  · intro e h3
    have := h2 h3
    omega
  · intro h3
    exact (h1 (by omega)).1

def wholeTo (L : List UInt8) (k : Nat) : Bool := (List.range k).all fun i => decide (2 ≤ cntL L (L.getD i 0))

theorem wholeTo_succ (L : List UInt8) (k : Nat) : wholeTo L (k + 1) = (wholeTo L k && decide (2 ≤ cntL L (L.getD k 0))) := by simp [wholeTo, List.range_succ]

theorem wholeTo_no {L : List UInt8} {k : Nat} (hk : k < L.length) (h : ¬ 2 ≤ cntL L (L.getD k 0)) : wholeL L = false := by
  rw [Bool.eq_false_iff]
  intro e
  exact h ((wholeL_iff L).1 e k hk)

set_option maxHeartbeats 1000000 in
theorem loWhole_any (t : ByteArray) (w : World) (ht : t.size ≤ 1048576) :
    Calls Try.prog 67 #[.string t] w fun e w' => e = .returned (.bool (wholeL t.data.toList)) ∧ w = w' := by
  have hlen := tx_len t
  have HE : Hid (wholeL t.data.toList = wholeTo t.data.toList t.size) := Lib.hid (by unfold wholeL wholeTo; rw [hlen])
  have HS := Lib.hid (fun k => wholeTo_succ t.data.toList k)
  have HN := Lib.hid (fun k (hk : k < t.size) h => wholeTo_no (L := t.data.toList) (k := k) (by rw [hlen]; exact hk) h)
  have HP := Lib.hid (fun k (hk : k < t.size) => places_two t.data.toList k (by rw [hlen]; exact hk))
  have HT := Lib.hid (fun k (h : k < t.size) => tx_get t k h)
  have HLP := Lib.hid (fun c W => loPlaces_any t c W ht)
  obtain ⟨n, hn⟩ : ∃ n, t.size = n := ⟨_, rfl⟩
  rw [hn] at HE HN HP
  have HNN := Lib.hid hn
  clear hlen
  go_enter Try.func67, Try.ntmps67
  go_wp2
  go_loopw [3] (fun i wr => ∃ k : Nat, k ≤ n ∧ i = .int .i64 k ∧ Hid (wholeTo t.data.toList k = true) ∧ w = wr) (fun i _ => n - (intOf i).toNat)
  case atStart => exact ⟨0, by omega, rfl, Lib.hid rfl, rfl⟩
  case round =>
    obtain ⟨k, hk, rfl, HK, rfl⟩ := hrel
    by_cases hlt : k < n
    · have hkt : k < t.size := by omega
      have hg := HT.out k hkt
      have hp := HP.out k hlt
      have hs := HS.out k
      have hno := HN.out k hlt
      obtain ⟨c, hc⟩ : ∃ c, t.data.toList.getD k 0 = c := ⟨_, rfl⟩
      rw [hc] at hg hp hs hno
      obtain ⟨d, hd⟩ : ∃ d, c.toNat = d := ⟨_, rfl⟩
      have htd : (t[k]'hkt).toNat = d := by rw [hg]; exact hd
      have hl := HLP.out c w
      rw [hd] at hl
      obtain ⟨x, hx⟩ : ∃ x, (placesL t.data.toList c).1 = x := ⟨_, rfl⟩
      obtain ⟨y, hy⟩ : ∃ y, (placesL t.data.toList c).2 = y := ⟨_, rfl⟩
      rw [hx, hy] at hl hp
      have HL := Lib.hid hl
      have k0 : 0 ≤ (k : Int) := by omega
      have k1 : (k : Int) < (n : Int) := by omega
      have e3 : IntKind.i64.wrap ((k : Int) + 1) = (k : Int) + 1 := by rw [IntKind.wrap_i64]; omega
      by_cases hxy : x = y
      · have HF := Lib.hid (hno (hp.1 hxy))
        have hb : (x == y) = true := beq_iff_eq.2 hxy
        clear hg hp hs hno hd hl hx hy hc hxy
        go_wp2_with (first | (go_at_call 65; (with_reducible refine HL.out.mono ?_); rintro e w1 ⟨rfl, rfl⟩))
        go_ret
        exact ⟨by rw [HF.out]; rfl, rfl⟩
      · have h2 : 2 ≤ cntL t.data.toList c := Classical.byContradiction fun h => hxy (hp.2 h)
        have HK2 := Lib.hid (show wholeTo t.data.toList (k + 1) = true by rw [hs, HK.out]; simpa using h2)
        have hb : (x == y) = false := beq_eq_false_iff_ne.2 hxy
        clear hg hp hs hno hd hl hx hy hc hxy h2
        go_wp2_with (first | (go_at_call 65; (with_reducible refine HL.out.mono ?_); rintro e w1 ⟨rfl, rfl⟩))
        go_roundw
        case rel => exact ⟨k + 1, by omega, by go_num, HK2, by trivial⟩
        case measure => simp [intOf]; omega
    · obtain rfl : k = n := by omega
      go_wp2
      go_ret
      exact ⟨by rw [HE.out, HK.out]; rfl, rfl⟩

/-- The model's word for the turns below k. -/
def oneSTo (L : List UInt8) (k : Nat) : Bool := (List.range k).all fun i => (List.range (L.length - 1)).all fun e => !wholeL ((rotL L i).take (e + 1))

theorem oneSTo_no {L : List UInt8} {k e : Nat} (hk : k < L.length) (he : e + 1 < L.length) (h : wholeL ((rotL L k).take (e + 1)) = true) : oneL L = false := by
  rw [Bool.eq_false_iff]
  intro hall
  simp only [oneL, List.all_eq_true, List.mem_range] at hall
  have := hall k hk e (by omega)
  rw [h] at this
  cases this

theorem oneSTo_step {L : List UInt8} {k : Nat} (h : oneSTo L k = true) (h2 : ∀ e, e + 1 < L.length → wholeL ((rotL L k).take (e + 1)) = false) : oneSTo L (k + 1) = true := by
  simp only [oneSTo, List.all_eq_true, List.mem_range] at h ⊢
  intro i hi e he
  by_cases e1 : i = k
  · subst e1
    rw [h2 e (by omega)]; rfl
  · exact h i (by omega) e he

theorem rot_add (t : ByteArray) (k : Nat) (hk : k ≤ t.size) : t.extract k t.size ++ t.extract 0 k = txL (rotL t.data.toList k) := by
  apply ByteArray.ext
  apply Array.toList_inj.1
  rw [ByteArray.data_append, Array.toList_append]
  exact rot_ext t k hk

set_option maxHeartbeats 4000000 in
set_option maxRecDepth 100000 in
theorem sIsOneLoop_yes (t : ByteArray) (ps : List (Nat × Nat)) (w : World) (ht : t.size ≤ 1048576) (h : LoopP t.data.toList ps) (hg : goodL t.data.toList = true) :
    Calls Try.prog 37 #[.string t] w fun e w' => e = .returned (.tuple #[.bool (oneL t.data.toList), .bool true]) ∧ Below w.heap.size w w' := by
  have HG := Lib.hid hg
  have hlen := tx_len t
  have h16 : t.size ≤ 16 := by rw [← hlen]; exact ((goodL_iff _).1 hg).1
  have HAS := Lib.hid (fun k (hk : k < t.size) => show (t[k]'hk).toNat < 128 by
    rw [tx_get t k hk]
    obtain ⟨q, hq, e⟩ := h.sign k (by rw [hlen]; exact hk)
    have := h.few
    rw [e, lt8_nat q (by omega)]
    omega)
  have HE : Hid (oneL t.data.toList = oneSTo t.data.toList t.size) := Lib.hid (by unfold oneL oneSTo; rw [hlen])
  have HNO := Lib.hid (fun k e (hk : k < t.size) (he : e + 1 < t.size) h => oneSTo_no (L := t.data.toList) (k := k) (e := e) (by rw [hlen]; exact hk) (by rw [hlen]; exact he) h)
  have HST := Lib.hid (fun k h h2 => oneSTo_step (L := t.data.toList) (k := k) h h2)
  have HAD := Lib.hid (fun k (hk : k ≤ t.size) => show Op.stringOp .add (t.extract k t.size) (t.extract 0 k) = pure (.string (txL (rotL t.data.toList k))) by
    rw [← rot_add t k hk]
    exact txAdd _ _ (by rw [ByteArray.size_extract, ByteArray.size_extract]; omega))
  have HRS := Lib.hid (fun k => show (txL (rotL t.data.toList k)).size = t.size by rw [txL_size, rotL_length, hlen])
  have HWH := Lib.hid (fun k e W (he : e ≤ t.size) => show Calls Try.prog 67 #[.string ((txL (rotL t.data.toList k)).extract 0 e)] W fun en w' => en = .returned (.bool (wholeL ((rotL t.data.toList k).take e))) ∧ W = w' by
    have := loWhole_any ((txL (rotL t.data.toList k)).extract 0 e) W (by rw [ByteArray.size_extract]; omega)
    rw [ext_list] at this
    exact this)
  have HLEN := Lib.hid hlen
  clear hg h hlen
  go_enter Try.func37, Try.ntmps37
  go_wp2_with (first | (go_at_call 39; (with_reducible refine (loGood_any t _ ht).mono ?_); rintro e w1 ⟨rfl, hb1⟩; rw [HG.out]))
  have HB1 := Lib.hid hb1
  have hz1 := hb1.size
  clear hb1
  go_loopw [] (fun wr => ∃ k : Nat, k ≤ t.size ∧ Hid (oneSTo t.data.toList k = true) ∧ wr.heap[w1.heap.size]? = some (.stringIter t k) ∧ Below w1.heap.size w1 wr) (fun wr => t.size - wr.iterPos w1.heap.size)
  case atStart => exact ⟨0, by omega, Lib.hid rfl, World.iter_heap w1 t 0, (Below.refl _ _).alloc (Nat.le_refl _) _⟩
  case round =>
    obtain ⟨wo, rfl⟩ : ∃ z, z = wr := ⟨wr, rfl⟩
    obtain ⟨k, hk, HK, hit, hB⟩ := hrel
    have hip : wo.iterPos w1.heap.size = k := by unfold World.iterPos; rw [hit]
    have HIP := Lib.hid hip
    clear hip
    have HB := Lib.hid hB
    by_cases hlt : k < t.size
    · have hnx : ∀ ty, (Instr.next (.pointer (some ⟨w1.heap.size, 0, none⟩)) true ty).run Try.prog wo = _ := fun ty => Lib.run_next_ascii_at wo w1.heap.size t k ty hit hlt (HAS.out k hlt)
      have hit2 := Lib.iterAt_heap wo w1.heap.size t k (k + 1) hit
      have hbw2 := Lib.below_iterAt hB (k := w1.heap.size) (Nat.le_refl _) t (k + 1)
      have HI2 := Lib.hid hit2
      have HB2 := Lib.hid hbw2
      have hadd := HAD.out k (by omega)
      have hXs := HRS.out k
      have HIS := Lib.hid (fun e W (he : e ≤ t.size) => HWH.out k e W he)
      obtain ⟨X, hX⟩ : ∃ X, txL (rotL t.data.toList k) = X := ⟨_, rfl⟩
      rw [hX] at hadd hXs HIS
      have k0 : 0 ≤ (k : Int) := by omega
      have k1 : (k : Int) ≤ (t.size : Int) := by omega
      clear hit2 hbw2 hX hB hit
      go_wp2
      go_quiet (fail)
      go_wp2
      clear hnx
      go_loopw [6] (fun i wr => ∃ e : Nat, 1 ≤ e ∧ (e ≤ t.size ∨ e = 1) ∧ i = .int .i64 e ∧ Hid (∀ q, q + 1 < e → wholeL ((rotL t.data.toList k).take (q + 1)) = false) ∧ wr = (wo.iterAt w1.heap.size t (k + 1)).drewN nq) (fun i _ => t.size + 1 - (intOf i).toNat)
      case atStart => exact ⟨1, by omega, .inr rfl, rfl, Lib.hid (fun q hq => by omega), rfl⟩
      case round =>
        obtain ⟨e, he1, hez, rfl, HEE, rfl⟩ := hrel
        by_cases hlt2 : e < t.size
        · have e0 : 0 ≤ (e : Int) := by omega
          have e1 : (e : Int) ≤ (t.size : Int) := by omega
          have e2 : (e : Int) < (t.size : Int) := by omega
          have e3 : IntKind.i64.wrap ((e : Int) + 1) = (e : Int) + 1 := by rw [IntKind.wrap_i64]; omega
          cases hg2 : wholeL ((rotL t.data.toList k).take e) with
          | true =>
            have HGG := Lib.hid hg2
            have HF := Lib.hid (HNO.out k (e - 1) hlt (by omega) (by rw [show e - 1 + 1 = e by omega]; exact hg2))
            clear hg2
            go_wp2_with (first | (go_at_call 67; (with_reducible refine (HIS.out e _ (by omega)).mono ?_); rintro en w3 ⟨rfl, rfl⟩; (rw [HGG.out])))
            go_ret2
            exact ⟨by rw [HF.out]; rfl, HB1.out.trans ((bdn HB2.out _).mono hz1)⟩
          | false =>
            have HGG := Lib.hid hg2
            clear hg2
            go_wp2_with (first | (go_at_call 67; (with_reducible refine (HIS.out e _ (by omega)).mono ?_); rintro en w3 ⟨rfl, rfl⟩; (rw [HGG.out])))
            go_roundw
            case rel => exact ⟨e + 1, by omega, .inl (by omega), by go_num, Lib.hid (fun q hq => by
              by_cases e4 : q + 1 = e
              · rw [e4]; exact HGG.out
              · exact HEE.out q (by omega)), by first | rfl | trivial⟩
            case measure => simp [intOf]; omega
        · have e2 : ¬ (e : Int) < (t.size : Int) := by omega
          have HK2 := Lib.hid (HST.out k HK.out (fun q hq => HEE.out q (by rw [HLEN.out] at hq; omega)))
          go_wp2
          go_roundw
          case rel => exact ⟨k + 1, by omega, HK2, HI2.out, bdn HB2.out _⟩
          case measure =>
            have h1 : (World.drewN (wo.iterAt w1.heap.size t (k + 1)) nq).iterPos w1.heap.size = k + 1 := by unfold World.iterPos; rw [show (World.drewN (wo.iterAt w1.heap.size t (k + 1)) nq).heap[w1.heap.size]? = _ from HI2.out]
            rw [h1, HIP.out]
            omega
    · obtain rfl : k = t.size := by omega
      have hnx : ∀ ty, (Instr.next (.pointer (some ⟨w1.heap.size, 0, none⟩)) true ty).run Try.prog wo = _ := fun ty => Lib.run_next_end_at wo w1.heap.size t t.size ty hit hlt
      clear hB hit
      go_wp2
      go_ret2
      exact ⟨by rw [HE.out, HK.out]; rfl, HB1.out.trans (HB.out.mono hz1)⟩

set_option maxHeartbeats 1000000 in
theorem core_IsOneLoop (t : ByteArray) (x : Bool) (y : Bool) (w : World) (ht0 : t.size ≤ 1048576)
    (hs : ∀ W : World, Calls Try.prog 37 #[.string t] W fun e w' => e = .returned (.tuple #[.bool x, .bool y]) ∧ Below W.heap.size W w')
    (hi : ∀ W : World, Calls Try.prog 38 #[.string t] W fun e w' => e = .returned (.tuple #[.bool x, .bool y]) ∧ Below W.heap.size W w') :
    Calls Try.prog 14 #[.string t] w fun e w' => e = .returned (.bool true) ∧ Below w.heap.size w w' := by
  have HS := Lib.hid hs
  have HI := Lib.hid hi
  have h0 : ¬ 1048576 < (t.size : Int) := by omega
  clear hs hi ht0
  go_enter Try.func14, Try.ntmps14
  go_wp2_with (first | (go_at_call 37; (with_reducible refine (HS.out _).mono ?_); rintro e w1 ⟨rfl, hb1⟩) | (go_at_call 38; (with_reducible refine (HI.out _).mono ?_); rintro e w2 ⟨rfl, hb2⟩))
  go_ret
  exact ⟨rfl, hb1.trans (hb2.mono hb1.size)⟩

set_option maxHeartbeats 400000 in
theorem long0_IsOneLoop (t : ByteArray) (w : World)  (ht : 1048576 < (t.size : Int)) :
    Calls Try.prog 14 #[.string t] w fun e w' => e = .returned (.bool true) ∧ Below w.heap.size w w' := by
  go_enter Try.func14, Try.ntmps14
  go_wp2
  go_ret
  exact ⟨rfl, Below.refl _ _⟩

set_option maxHeartbeats 1000000 in
theorem told_isOne (t : ByteArray) (ps : List (Nat × Nat)) (w : World) (ht : t.size ≤ 1048576) (h8 : ps.length ≤ 8) (hl : loopL t.data.toList = some ps) :
    Calls Try.prog 51 #[.string t, .func (.func 68) #[] #[]] w fun e w' => e = .returned (.tuple #[.bool (oneL t.data.toList), .bool true]) ∧ Below w.heap.size w w' := by
  have HL := Lib.hid hl
  have HLP := Lib.hid (loopL_some hl).1
  have HTS := Lib.hid (show t.size = 2 * ps.length ∧ ∀ k, k < ps.length → (ps.getD k (0, 0)).1 < (ps.getD k (0, 0)).2 ∧ (ps.getD k (0, 0)).2 < t.size from ⟨by rw [← tx_len]; exact HLP.out.len, fun k hk => by have h1 := HLP.out.lt k hk; have h2 := tx_len t; omega⟩)
  clear hl
  go_enter Try.func51, Try.ntmps51
  go_wp2_with (first | (go_at_call 40; (with_reducible refine (loopOf_yes t ps _ ht HL.out).mono ?_); rintro e w1 ⟨a0, cap, rfl, hP, hb1⟩; (have hz1 := hb1.size); (have HP := Lib.hid hP); clear hP) | (go_at_call 68; (refine (isOne_good t _ _ _ _ (loopL_some HL.out).2).mono ?_); rintro e w2 ⟨rfl, hb2⟩))
  go_ret2
  exact ⟨rfl, Below.trans (Below.trans hb1 (by go_grown)) (hb2.mono (by simp; omega))⟩

set_option maxHeartbeats 400000 in
theorem iIsOneLoop_yes (t : ByteArray) (ps : List (Nat × Nat)) (w : World) (ht : t.size ≤ 1048576) (h8 : ps.length ≤ 8) (hl : loopL t.data.toList = some ps) :
    Calls Try.prog 38 #[.string t] w fun e w' => e = .returned (.tuple #[.bool (oneL t.data.toList), .bool true]) ∧ Below w.heap.size w w' := by
  go_enter Try.func38, Try.ntmps38
  go_wp2_with (first | (go_at_call 51; (with_reducible refine (told_isOne t ps _ ht h8 hl).mono ?_); rintro e w1 ⟨rfl, hb1⟩))
  go_ret2
  exact ⟨rfl, hb1⟩

set_option maxHeartbeats 400000 in
theorem iIsOneLoop_no (t : ByteArray) (w : World) (ht : t.size ≤ 1048576) (hl : loopL t.data.toList = none) :
    Calls Try.prog 38 #[.string t] w fun e w' => e = .returned (.tuple #[.bool false, .bool false]) ∧ Below w.heap.size w w' := by
  go_enter Try.func38, Try.ntmps38
  go_wp2_with (first | (go_at_call 51; (with_reducible refine (told_no_bool t _ _ ht hl).mono ?_); rintro e w1 ⟨rfl, hb1⟩))
  go_ret2
  exact ⟨rfl, hb1⟩

set_option maxHeartbeats 400000 in
theorem sIsOneLoop_no (t : ByteArray) (w : World) (ht : t.size ≤ 1048576) (hg : goodL t.data.toList = false) :
    Calls Try.prog 37 #[.string t] w fun e w' => e = .returned (.tuple #[.bool false, .bool false]) ∧ Below w.heap.size w w' := by
  have HG := Lib.hid hg
  clear hg
  go_enter Try.func37, Try.ntmps37
  go_wp2_with (first | (go_at_call 39; (with_reducible refine (loGood_any t _ ht).mono ?_); rintro e w1 ⟨rfl, hb1⟩; rw [HG.out]))
  go_ret2
  exact ⟨rfl, hb1⟩

theorem main_IsOneLoop (t : ByteArray) (w : World) (ht : t.size ≤ 1048576) : Calls Try.prog 14 #[.string t] w fun e w' => e = .returned (.bool true) ∧ Below w.heap.size w w' := by
  cases hl : loopL t.data.toList with
  | none => exact core_IsOneLoop t _ _ w ht (fun W => sIsOneLoop_no t W ht (loopL_none hl)) (fun W => iIsOneLoop_no t W ht hl)
  | some ps =>
    obtain ⟨h1, h2⟩ := loopL_some hl
    exact core_IsOneLoop t _ _ w ht (fun W => sIsOneLoop_yes t ps W ht h1 h2) (fun W => iIsOneLoop_yes t ps W ht h1.few hl)

theorem walk_IsOneLoop (t : ByteArray) (w : World) (wf0 : t.size ≤ maxLen) :
    Calls Try.prog 14 #[.string t] w fun e w' => e = .returned (.bool true) ∧ Below w.heap.size w w' := by
  by_cases h0 : 1048576 < (t.size : Int)
  · exact long0_IsOneLoop t w  h0
  exact main_IsOneLoop t w (by omega)

end Go.Proofs.Ytpcebcgmbngabaa
