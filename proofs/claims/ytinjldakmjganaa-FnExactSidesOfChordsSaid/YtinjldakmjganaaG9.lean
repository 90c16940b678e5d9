/- Sides of chords: both sides, and the law. -/
import Derived.Test.YtinjldakmjganaaG7
import Derived.Laws.BytesArg
namespace Go.Proofs.Ytinjldakmjganaa
open Go.RowKit
set_option linter.unusedVariables false

/-- Are two chords of a pair drawn on one side? -/
def samePair (L : LabT) (r : List Int) : Bool := distT L (r.getD 0 0).toNat % 2 == distT L (r.getD 1 0).toNat % 2

def anySame (L : LabT) (P : List (List Int)) : Bool := P.any (samePair L)

theorem anySame_yes {L : LabT} {P : List (List Int)} {k : Nat} (h : k < P.length) (hs : samePair L (P.getD k []) = true) : anySame L P = true := by
  rw [List.getD, List.getElem?_eq_getElem h] at hs
  exact List.any_eq_true.2 ⟨P[k], List.getElem_mem h, hs⟩

theorem anySame_no {L : LabT} {P : List (List Int)} (h : ∀ k, k < P.length → samePair L (P.getD k []) = false) : anySame L P = false := by
  unfold anySame
  rw [List.any_eq_false]
  intro r hr
  obtain ⟨k, hk, rfl⟩ := List.mem_iff_getElem.1 hr
  have := h k hk
  rw [List.getD, List.getElem?_eq_getElem hk] at this
  simpa using this

/-- What is told of the sides. -/
def sideB (n : Nat) (L : LabT) (P : List (List Int)) : ByteArray := if anySame L P then ⟨#[]⟩ else strOfNums (sidesL n L)

theorem rowP_elems (xs : List (Int × Int)) (i : Nat) : ∀ j, ∀ r ∈ rowP xs i j, ∃ b : Nat, r = [(i : Int), (b : Int)] ∧ i < b ∧ b < j
  | 0, r, hr => by simp [rowP] at hr
  | j + 1, r, hr => by
    rw [rowP] at hr
    rcases List.mem_append.1 hr with h | h
    · obtain ⟨b, h1, h2, h3⟩ := rowP_elems xs i j r h
      exact ⟨b, h1, h2, by omega⟩
    · split at h
      · next hc =>
        simp at h
        exact ⟨j, h, hc.1, by omega⟩
      · simp at h

theorem allP_elems (xs : List (Int × Int)) : ∀ i, ∀ r ∈ allP xs i, ∃ a b : Nat, r = [(a : Int), (b : Int)] ∧ a < b ∧ b < xs.length
  | 0, r, hr => by simp [allP] at hr
  | i + 1, r, hr => by
    rw [allP] at hr
    rcases List.mem_append.1 hr with h | h
    · exact allP_elems xs i r h
    · obtain ⟨b, h1, h2, h3⟩ := rowP_elems xs i _ r h
      exact ⟨i, b, h1, h2, h3⟩

theorem samePair_at (L : LabT) (a b : Nat) : samePair L [(a : Int), (b : Int)] = (distT L a % 2 == distT L b % 2) := by
  unfold samePair
  simp

theorem sides_same (L : LabT) (a b : Nat) (ha : labT L a ≠ none) (hb : labT L b ≠ none) : (sideV L a == sideV L b) = (distT L a % 2 == distT L b % 2) := by
  rw [sideV_some L a ha, sideV_some L b hb, Bool.eq_iff_iff, beq_iff_eq, beq_iff_eq]
  have h1 := Nat.mod_two_eq_zero_or_one (distT L a)
  have h2 := Nat.mod_two_eq_zero_or_one (distT L b)
  rcases h1 with h1 | h1 <;> rcases h2 with h2 | h2 <;> rw [h1, h2] <;> simp

/-- A row of a slice of slices, of two numbers. -/
theorem RowsAt.pair {eo ei : TypeId} {w : World} {B T : Nat} {v : Value} {vs : List Value} {xss : List (List Int)} (h : RowsAt eo ei w B T v vs xss) {k : Nat} (hk : k < xss.length) {a b : Int} (hr : xss.getD k [] = [a, b]) :
    ∃ (gr cap : Nat), vs.getD k (.slice none 0 0) = .slice (some ⟨gr, 0, none⟩) 2 cap ∧ w.cell? ⟨gr, 0, none⟩ = some (.int .i64 a) ∧ w.cell? ⟨gr, 1, none⟩ = some (.int .i64 b) := by
  have h1 := h.rows k hk
  rw [hr] at h1
  obtain ⟨a0, cap, g, hv, h2, _, _, _, hc, _⟩ := h1.1.view
  rw [h2 (by simp)] at hv
  exact ⟨g, cap, hv, hc 0 (by simp), hc 1 (by simp)⟩

set_option maxHeartbeats 4000000 in
set_option maxRecDepth 100000 in
theorem iSides_yes (p : Int) (u : Value) (xs : List (Int × Int)) (B T : Nat) (w : World) (h : PairsIn 48 w B T u xs) (hT : T ≤ w.heap.size) (hg : goodC p xs) : Calls Try.prog 17 #[.int .i64 p, u] w fun e w' => e = .returned (.tuple #[.string (sideB xs.length (outerK (crL xs) xs.length xs.length).1 (allP xs xs.length)), .bool (!anySame (outerK (crL xs) xs.length xs.length).1 (allP xs xs.length))]) ∧ Below w.heap.size w w' := by
  have hl := hg.2.1
  have hO := outI (crL xs) xs.length xs.length (Nat.le_refl _)
  have hps := (pairs_small xs hl).1
  go_enter Try.func17, Try.ntmps17
  go_wp2_with (first | (go_at_call 32; (with_reducible refine (iCrossingPairs_yes p _ xs B T _ h hT hg).mono ?_); rintro e w1 ⟨v, rfl, hr, hb1⟩; obtain ⟨vs, hv⟩ := hr; obtain ⟨a0, cap0, g0, rfl, ha0, hml0, hc0, hf0⟩ := hv.view; have h1 := h.keep (belowSame hb1 hT); have hz1 := hb1.size) | (go_at_call 29; (with_reducible refine (groupsAndSides_any _ xs B T _ h1 (Nat.le_trans hT hz1) hl).mono ?_); rintro e w2 ⟨v2, rfl, hr2, h92, hb2⟩; have hB2 := hb1.trans (hb2.mono hz1); have hv2 := hv.keep (belowSame hb2 (Nat.le_refl _)); have hc2 := fun i hi => cellB hb2 (hc0 i hi)))
  obtain ⟨E, hE⟩ : ∃ E, E = outerK (crL xs) xs.length xs.length := ⟨_, rfl⟩
  have HME := Lib.hid (congrArg (·.1) hE)
  rw [← hE] at h92 hO
  obtain ⟨M, G⟩ := E
  simp only at h92
  obtain ⟨lp, hlp⟩ : ∃ n, n = (allP xs xs.length).length := ⟨_, rfl⟩
  have HV := Lib.hid hv2
  have HC := Lib.hid hc2
  have H9 := Lib.hid h92
  have HB := Lib.hid hB2
  have HO := Lib.hid hO
  have HA := Lib.hid ha0
  have HLP := Lib.hid hlp
  have hz12 := hb2.size
  have HZ := Lib.hid (show w.heap.size ≤ w2.heap.size from hB2.size)
  rw [← hlp] at hps
  clear hE hv hr2 h92 hb1 hb2 hB2 h h1 hc0 hf0 ha0 hml0 hg hO hv2 hc2
  rw [← hlp]
  clear hlp
  go_loopw [27] (fun t wr => ∃ k : Nat, k ≤ lp ∧ t = .int .i64 k ∧ Below w2.heap.size w2 wr ∧ ∀ i, i < k → samePair M ((allP xs xs.length).getD i []) = false) (fun t _ => lp - (intOf t).toNat)
  case atStart => exact ⟨0, by omega, rfl, Below.refl _ _, fun i hi => by omega⟩
  case round =>
    obtain ⟨k, hk, rfl, hw, hall⟩ := hrel
    have HW := Lib.hid hw
    clear hw
    by_cases hlt : k < lp
    · have hka : k < (allP xs xs.length).length := by rw [← HLP.out]; exact hlt
      obtain rfl := HA.out (by omega)
      obtain ⟨a, b, hr, hab, hb⟩ := allP_elems xs xs.length ((allP xs xs.length).getD k []) (by rw [List.getD, List.getElem?_eq_getElem hka]; exact List.getElem_mem hka)
      have hsp := samePair_at M a b
      rw [← hr] at hsp
      obtain ⟨gr, cr, hvk, d0, d1⟩ := (HV.out.keep (belowSame HW.out hz12)).pair hka hr
      have hck := cellB HW.out (HC.out k hka)
      rw [hvk] at hck
      have ea := (H9.out.keep HW.out).cell a (by rw [sidesL_length]; omega)
      have eb := (H9.out.keep HW.out).cell b (by rw [sidesL_length]; omega)
      rw [sidesL_get _ _ _ (by omega)] at ea eb
      have hss := sides_same M a b (HO.out.all a (by omega)) (HO.out.all b (by omega))
      rw [← hsp] at hss
      obtain ⟨sa, hsa⟩ : ∃ s, s = sideV M a := ⟨_, rfl⟩
      obtain ⟨sb, hsb⟩ : ∃ s, s = sideV M b := ⟨_, rfl⟩
      rw [← hsa] at ea hss
      rw [← hsb] at eb hss
      have ha1 : 0 ≤ (a : Int) := by omega
      have ha2 : (a : Int) < (xs.length : Int) := by omega
      have hb1 : 0 ≤ (b : Int) := by omega
      have hb2 : (b : Int) < (xs.length : Int) := by omega
      have hk1 : 0 ≤ (k : Int) := by omega
      have hk2 : (k : Int) < (lp : Int) := by omega
      have hw1 : IntKind.i64.wrap ((k : Int) + 1) = ((k + 1 : Nat) : Int) := by rw [IntKind.wrap_i64]; omega
      have HALL := Lib.hid hall
      have HKA := Lib.hid hka
      clear hall hr hsp hvk hsa hsb hka
      cases hsm : samePair M ((allP xs xs.length).getD k []) with
      | true =>
        rw [hsm] at hss
        have HSM := Lib.hid hsm
        clear hsm
        go_wp2
        go_quiet (fail)
        go_wp2
        go_ret2
        have hyes := anySame_yes HKA.out HSM.out
        refine ⟨?_, bdn (HB.out.trans (HW.out.mono HZ.out)) _⟩
        rw [← HME.out]
        simp only [sideB, hyes]
        rfl
      | false =>
        rw [hsm] at hss
        have HSM := Lib.hid hsm
        clear hsm
        go_wp2
        go_quiet (fail)
        go_wp2
        go_roundw
        case rel => exact ⟨k + 1, by omega, by go_num, bdn HW.out _, fun i hi => by
          by_cases e : i = k
          · rw [e]; exact HSM.out
          · exact HALL.out i (by omega)⟩
        case measure => simp [intOf]; omega
    · obtain rfl : k = lp := by omega
      have hno := anySame_no (L := M) (P := allP xs xs.length) (by rw [← HLP.out]; exact hall)
      have hcv := run_convert_bytes_arg (P := Try.prog) wr 51 5 Try.underlying51 Try.underlying5 w1.heap.size 0 xs.length xs.length (sidesL xs.length M) (sidesL_length _ _) (fun i hi => by rw [Nat.zero_add]; exact (H9.out.keep HW.out).cell i (by rw [sidesL_length]; exact hi)) 9 Try.underlying9
      have HNO := Lib.hid hno
      clear hall hno
      go_wp2
      go_ret2
      refine ⟨?_, HB.out.trans (HW.out.mono HZ.out)⟩
      rw [← HME.out]
      simp only [sideB, HNO.out]
      rfl

theorem strAddG (a b : ByteArray) (h : a.size + b.size ≤ 1000000000) : Op.stringOp .add a b = pure (.string (a ++ b)) := by
  have e : ¬ (((a.size + b.size : Nat) : Int) > IntKind.i64.max) := by
    have : IntKind.i64.max = 9223372036854775807 := by decide +kernel
    omega
  unfold Op.stringOp
  simp only [if_neg e]

theorem strOfNums_snoc (xs : List Int) (z : Int) : strOfNums (xs ++ [z]) = strOfNums xs ++ ⟨#[UInt8.ofNat z.toNat]⟩ := by
  apply ByteArray.ext
  rw [ByteArray.data_append]
  simp [strOfNums]

theorem sidesL_succ (M : LabT) (k : Nat) : sidesL (k + 1) M = sidesL k M ++ [sideV M k] := by
  simp [sidesL, List.range_succ]

set_option maxHeartbeats 4000000 in
set_option maxRecDepth 100000 in
theorem sSides_yes (p : Int) (u : Value) (xs : List (Int × Int)) (B T : Nat) (w : World) (h : PairsIn 48 w B T u xs) (hT : T ≤ w.heap.size) (hg : goodC p xs) : Calls Try.prog 16 #[.int .i64 p, u] w fun e w' => e = .returned (.tuple #[.string (sideB xs.length (outerK (crL xs) xs.length xs.length).1 (allP xs xs.length)), .bool (!anySame (outerK (crL xs) xs.length xs.length).1 (allP xs xs.length))]) ∧ Below w.heap.size w w' := by
  have hl := hg.2.1
  have ho := chord_order hg
  have hO := outI (crL xs) xs.length xs.length (Nat.le_refl _)
  have hps := (pairs_small xs hl).1
  go_enter Try.func16, Try.ntmps16
  go_wp2_with (first | (go_at_call 25; (with_reducible refine (cdGood_yes p u xs B T _ h hg).mono ?_); rintro e w1 ⟨rfl, hb1⟩; have h1 := h.keep (belowSame hb1 hT); have hz1 := hb1.size) | (go_at_call 26; (with_reducible refine (cdGroups_any _ xs B T _ h1 (Nat.le_trans hT hz1) hl ho).mono ?_); rintro e w2 ⟨rfl, hr2, hd2, hb2, hbd2⟩; have hB2 := hb1.trans (hb2.mono hz1); have hz2 := hb2.size; have h2 := h1.keep (belowSame hb2 (Nat.le_trans hT hz1))) | (go_at_call 31; (with_reducible refine (cdPairs_any _ xs B T _ h2 ho (Nat.le_trans hl (by omega))).mono ?_); rintro e w3 ⟨v, rfl, hr, hb3⟩; obtain ⟨vs, hv⟩ := hr; obtain ⟨a0, cap0, g0, rfl, ha0, hml0, hc0, hf0⟩ := hv.view; have hB3 := hB2.trans (hb3.mono (by omega)); have hd3 := hd2.keep hb3))
  obtain ⟨E, hE⟩ : ∃ E, E = outerK (crL xs) xs.length xs.length := ⟨_, rfl⟩
  have HME := Lib.hid (congrArg (·.1) hE)
  rw [← hE] at hd3 hO hbd2
  obtain ⟨M, G⟩ := E
  simp only at hd3 hbd2
  obtain ⟨lp, hlp⟩ : ∃ n, n = (allP xs xs.length).length := ⟨_, rfl⟩
  have HV := Lib.hid hv
  have HC := Lib.hid hc0
  have H9 := Lib.hid hd3
  have HB := Lib.hid hB3
  have HO := Lib.hid hO
  have HA := Lib.hid ha0
  have HLP := Lib.hid hlp
  have HBD := Lib.hid hbd2
  have HZ := Lib.hid (show w.heap.size ≤ w3.heap.size from hB3.size)
  rw [← hlp] at hps
  clear hE hv hr2 hd2 hd3 hb1 hb2 hb3 hB2 hB3 h h1 h2 hc0 hf0 ha0 hml0 hg hO hbd2 ho
  rw [← hlp]
  clear hlp
  go_loopw [25] (fun t wr => ∃ k : Nat, k ≤ lp ∧ t = .int .i64 k ∧ Below w3.heap.size w3 wr ∧ ∀ i, i < k → samePair M ((allP xs xs.length).getD i []) = false) (fun t _ => lp - (intOf t).toNat)
  case atStart => exact ⟨0, by omega, rfl, Below.refl _ _, fun i hi => by omega⟩
  case round =>
    obtain ⟨k, hk, rfl, hw, hall⟩ := hrel
    have HW := Lib.hid hw
    clear hw
    by_cases hlt : k < lp
    · have hka : k < (allP xs xs.length).length := by rw [← HLP.out]; exact hlt
      obtain rfl := HA.out (by omega)
      obtain ⟨a, b, hr, hab, hb⟩ := allP_elems xs xs.length ((allP xs xs.length).getD k []) (by rw [List.getD, List.getElem?_eq_getElem hka]; exact List.getElem_mem hka)
      have hsp := samePair_at M a b
      rw [← hr] at hsp
      obtain ⟨gr, cr, hvk, d0, d1⟩ := (HV.out.keep (belowSame HW.out (Nat.le_refl _))).pair hka hr
      have hck := cellB HW.out (HC.out k hka)
      rw [hvk] at hck
      have ea := (H9.out.keep HW.out).cell a (by rw [distsL_length]; omega)
      have eb := (H9.out.keep HW.out).cell b (by rw [distsL_length]; omega)
      rw [distsL_get _ _ _ (by omega)] at ea eb
      have ba := HBD.out a
      have bb := HBD.out b
      obtain ⟨da, hda⟩ : ∃ s, s = distT M a := ⟨_, rfl⟩
      obtain ⟨db, hdb⟩ : ∃ s, s = distT M b := ⟨_, rfl⟩
      rw [← hda] at ea hsp ba
      rw [← hdb] at eb hsp bb
      obtain ⟨ra, hra⟩ : ∃ r : Nat, r = da % 2 := ⟨_, rfl⟩
      obtain ⟨rb, hrb⟩ : ∃ r : Nat, r = db % 2 := ⟨_, rfl⟩
      rw [← hra, ← hrb] at hsp
      have ta : Int.tmod (da : Int) 2 = (ra : Int) := by rw [Int.tmod_eq_emod_of_nonneg (by omega), hra]; norm_cast
      have tb : Int.tmod (db : Int) 2 = (rb : Int) := by rw [Int.tmod_eq_emod_of_nonneg (by omega), hrb]; norm_cast
      have ta2 : (da : Int) % 2 = (ra : Int) := by rw [hra]; norm_cast
      have tb2 : (db : Int) % 2 = (rb : Int) := by rw [hrb]; norm_cast
      have wa : IntKind.i64.wrap (ra : Int) = (ra : Int) := by rw [IntKind.wrap_i64]; omega
      have wb : IntKind.i64.wrap (rb : Int) = (rb : Int) := by rw [IntKind.wrap_i64]; omega
      have hss : ((ra : Int) == (rb : Int)) = samePair M ((allP xs xs.length).getD k []) := by
        rw [hsp, Bool.eq_iff_iff, beq_iff_eq, beq_iff_eq]
        omega
      have ha1 : 0 ≤ (a : Int) := by omega
      have ha2 : (a : Int) < (xs.length : Int) := by omega
      have hb1 : 0 ≤ (b : Int) := by omega
      have hb2 : (b : Int) < (xs.length : Int) := by omega
      have hk1 : 0 ≤ (k : Int) := by omega
      have hk2 : (k : Int) < (lp : Int) := by omega
      have hw1 : IntKind.i64.wrap ((k : Int) + 1) = ((k + 1 : Nat) : Int) := by rw [IntKind.wrap_i64]; omega
      have HALL := Lib.hid hall
      have HKA := Lib.hid hka
      clear hall hr hsp hvk hda hdb hka hra hrb ba bb
      cases hsm : samePair M ((allP xs xs.length).getD k []) with
      | true =>
        rw [hsm] at hss
        have HSM := Lib.hid hsm
        clear hsm
        go_wp2
        go_quiet (fail)
        go_wp2
        go_ret2
        have hyes := anySame_yes HKA.out HSM.out
        refine ⟨?_, bdn (HB.out.trans (HW.out.mono HZ.out)) _⟩
        rw [← HME.out]
        simp only [sideB, hyes]
        rfl
      | false =>
        rw [hsm] at hss
        have HSM := Lib.hid hsm
        clear hsm
        go_wp2
        go_quiet (fail)
        go_wp2
        go_roundw
        case rel => exact ⟨k + 1, by omega, by go_num, bdn HW.out _, fun i hi => by
          by_cases e : i = k
          · rw [e]; exact HSM.out
          · exact HALL.out i (by omega)⟩
        case measure => simp [intOf]; omega
    · obtain rfl : k = lp := by omega
      have hno := anySame_no (L := M) (P := allP xs xs.length) (by rw [← HLP.out]; exact hall)
      have HNO := Lib.hid hno
      have HB4 := Lib.hid (HB.out.trans (HW.out.mono HZ.out))
      have H94 := Lib.hid (H9.out.keep HW.out)
      have HZ4 := Lib.hid (Nat.le_trans HZ.out HW.out.size)
      clear hall hno H9 HV HC HLP HB HA hps hk
      obtain ⟨wq, rfl⟩ : ∃ z, z = wr := ⟨wr, rfl⟩
      go_wp2
      go_loopw [10, 47] (fun s t wr => ∃ k : Nat, k ≤ xs.length ∧ t = .int .i64 k ∧ Below wq.heap.size wq wr ∧ s = .string (strOfNums (sidesL k M))) (fun _ t _ => xs.length - (intOf t).toNat)
      case atStart => exact ⟨0, by omega, rfl, Below.refl _ _, rfl⟩
      case round =>
        obtain ⟨k, hk, rfl, hw, rfl⟩ := hrel
        have HW2 := Lib.hid hw
        clear hw
        by_cases hlt : k < xs.length
        · have ea := (H94.out.keep HW2.out).cell k (by rw [distsL_length]; omega)
          rw [distsL_get _ _ _ hlt] at ea
          have hsv := sideV_some M k (HO.out.all k hlt)
          have hsc := sidesL_succ M k
          have ba := HBD.out k
          obtain ⟨da, hda⟩ : ∃ s, s = distT M k := ⟨_, rfl⟩
          rw [← hda] at ea hsv ba
          have hk1 : 0 ≤ (k : Int) := by omega
          have hk2 : (k : Int) < (xs.length : Int) := by omega
          have hw1 : IntKind.i64.wrap ((k : Int) + 1) = ((k + 1 : Nat) : Int) := by rw [IntKind.wrap_i64]; omega
          have hsz : (strOfNums (sidesL k M)).size ≤ 1000 := by rw [strOfNums_size, sidesL_length]; omega
          have HSC := Lib.hid hsc
          by_cases hev : da % 2 = 0
          · rw [if_pos hev] at hsv
            have HSV := Lib.hid hsv
            have ta : Int.tmod (da : Int) 2 = 0 := by rw [Int.tmod_eq_emod_of_nonneg (by omega)]; omega
            have ta2 : (da : Int) % 2 = 0 := by omega
            have hadd := strAddG (strOfNums (sidesL k M)) ⟨#[105]⟩ (by show _ + 1 ≤ _; omega)
            have HEQ := Lib.hid (show strOfNums (sidesL k M) ++ ⟨#[105]⟩ = strOfNums (sidesL (k + 1) M) by rw [HSC.out, HSV.out, strOfNums_snoc]; rfl)
            clear hda hsc hsv ba hev
            go_wp2
            go_roundw
            case rel => exact ⟨k + 1, by omega, by go_num, HW2.out, by rw [← HEQ.out]⟩
            case measure => simp [intOf]; omega
          · rw [if_neg hev] at hsv
            have HSV := Lib.hid hsv
            have ta : Int.tmod (da : Int) 2 = 1 := by rw [Int.tmod_eq_emod_of_nonneg (by omega)]; omega
            have ta2 : (da : Int) % 2 = 1 := by omega
            have hadd := strAddG (strOfNums (sidesL k M)) ⟨#[111]⟩ (by show _ + 1 ≤ _; omega)
            have HEQ := Lib.hid (show strOfNums (sidesL k M) ++ ⟨#[111]⟩ = strOfNums (sidesL (k + 1) M) by rw [HSC.out, HSV.out, strOfNums_snoc]; rfl)
            clear hda hsc hsv ba hev
            go_wp2
            go_roundw
            case rel => exact ⟨k + 1, by omega, by go_num, HW2.out, by rw [← HEQ.out]⟩
            case measure => simp [intOf]; omega
        · obtain rfl : k = xs.length := by omega
          go_wp2
          go_ret2
          refine ⟨?_, HB4.out.trans (HW2.out.mono HZ4.out)⟩
          rw [← HME.out]
          simp only [sideB, HNO.out]
          rfl

set_option maxHeartbeats 400000 in
theorem sSides_no (p : Int) (u : Value) (xs : List (Int × Int)) (B T : Nat) (w : World) (h : PairsIn 48 w B T u xs) (hT : T ≤ w.heap.size) (hg : ¬ goodC p xs) : Calls Try.prog 16 #[.int .i64 p, u] w fun e w' => e = .returned (.tuple #[.string ⟨#[]⟩, .bool false]) ∧ Below w.heap.size w w' := by
  go_enter Try.func16, Try.ntmps16
  go_wp2_with (first | (go_at_call 25; (with_reducible refine (cdGood_no p u xs B T _ h hg).mono ?_); rintro e w1 ⟨rfl, hb1⟩))
  go_ret2
  exact ⟨rfl, hb1⟩

set_option maxHeartbeats 400000 in
theorem iSides_no (p : Int) (u : Value) (xs : List (Int × Int)) (B T : Nat) (w : World) (h : PairsIn 48 w B T u xs) (hT : T ≤ w.heap.size) (hg : ¬ goodC p xs) : Calls Try.prog 17 #[.int .i64 p, u] w fun e w' => e = .returned (.tuple #[.string ⟨#[]⟩, .bool false]) ∧ Below w.heap.size w w' := by
  go_enter Try.func17, Try.ntmps17
  go_wp2_with (go_at_call 32; (with_reducible refine (iCrossingPairs_no p u xs B T _ h hT hg).mono ?_); rintro e w1 ⟨v, rfl, hr, hb1⟩)
  go_ret2
  exact ⟨rfl, hb1⟩

set_option maxHeartbeats 1000000 in
theorem core_SidesOfChords (p : Int) (v : Value) (xs : List (Int × Int)) (x : ByteArray) (b : Bool) (w : World) (hA : ArgP w v xs) (hn : xs.length ≤ 1048576)
    (hs : ∀ (W : World) (u : Value) (B T : Nat), PairsIn 48 W B T u xs → T ≤ W.heap.size → Calls Try.prog 16 #[.int .i64 p, u] W (fun e w' => e = .returned (.tuple #[.string x, .bool b]) ∧ Below W.heap.size W w'))
    (hi : ∀ (W : World) (u : Value) (B T : Nat), PairsIn 48 W B T u xs → T ≤ W.heap.size → Calls Try.prog 17 #[.int .i64 p, u] W (fun e w' => e = .returned (.tuple #[.string x, .bool b]) ∧ Below W.heap.size W w')) :
    Calls Try.prog 4 #[.int .i64 p, v] w fun e w' => e = .returned (.bool true) ∧ Below w.heap.size w w' := by
  have hA1 := hA
  obtain ⟨a0, cap, a, rfl, _⟩ := hA1
  have HS := Lib.hid hs
  have HI := Lib.hid hi
  have HA := Lib.hid hA
  clear hs hi hA
  go_enter Try.func4, Try.ntmps4
  go_wp2_with fail
  refine (szChordS_yes _ _ _ _ hn).mono ?_
  rintro e w0 ⟨rfl, rfl⟩
  go_wp2_with fail
  refine (toChordS_any _ _ _ (HA.out.later (by go_grown)) hn).mono ?_
  rintro e w1 ⟨va, rfl, ka_1, hb1⟩
  have n1 : w.heap.size ≤ w1.heap.size := by have := hb1.size; (try simp at this); omega
  have B1 : Below w.heap.size w w1 := Below.trans (by go_grown) (hb1.mono (by first | (simp; done) | (simp; omega)))
  go_wp2_with fail
  refine (HS.out _ _ _ _ ka_1 (by omega)).mono ?_
  rintro e w2 ⟨rfl, hb2⟩
  have n2 := hb2.size
  have B2 := B1.trans (hb2.mono (by omega))
  have ka_2 := ka_1.keep (belowSame hb2 (by omega))
  go_wp2_with fail
  refine (toChordS_any _ _ _ (HA.out.later B2) hn).mono ?_
  rintro e w3 ⟨vc, rfl, kc_3, hb3⟩
  have n3 := hb3.size
  have B3 := B2.trans (hb3.mono (by omega))
  have ka_3 := ka_2.keep (belowSame hb3 (by omega))
  go_wp2_with fail
  refine (HI.out _ _ _ _ kc_3 (by omega)).mono ?_
  rintro e w4 ⟨rfl, hb4⟩
  have n4 := hb4.size
  have B4 := B3.trans (hb4.mono (by omega))
  have ka_4 := ka_3.keep (belowSame hb4 (by omega))
  have kc_4 := kc_3.keep (belowSame hb4 (by omega))
  go_wp2_with fail
  refine (toChordS_any _ _ _ (HA.out.later B4) hn).mono ?_
  rintro e w5 ⟨vd, rfl, kd_5, hb5⟩
  have n5 := hb5.size
  have B5 := B4.trans (hb5.mono (by omega))
  have ka_5 := ka_4.keep (belowSame hb5 (by omega))
  have kc_5 := kc_4.keep (belowSame hb5 (by omega))
  go_wp2_with fail
  refine (eqChordS_in _ _ _ _ _ _ _ _ _ kc_5 kd_5).mono ?_
  rintro e w6 ⟨rfl, hb6⟩
  have n6 := hb6.size
  have B6 := B5.trans (hb6.mono (by omega))
  have ka_6 := ka_5.keep (belowSame hb6 (by omega))
  have kc_6 := kc_5.keep (belowSame hb6 (by omega))
  have kd_6 := kd_5.keep (belowSame hb6 (by omega))
  go_wp2_with fail
  go_ret
  exact ⟨rfl, B6⟩

set_option maxHeartbeats 400000 in
theorem long_SidesOfChords (p : Int) (v : Value) (xs : List (Int × Int)) (w : World) (hA : ArgP w v xs) (hn : ¬ xs.length ≤ 1048576) :
    Calls Try.prog 4 #[.int .i64 p, v] w fun e w' => e = .returned (.bool true) ∧ Below w.heap.size w w' := by
  obtain ⟨a0, cap, a, rfl, _, hm, _⟩ := hA
  go_enter Try.func4, Try.ntmps4
  go_wp2_with fail
  refine (szChordS_no _ _ _ _ (by omega) hm).mono ?_
  rintro e w0 ⟨rfl, rfl⟩
  go_wp2_with fail
  go_ret
  exact ⟨rfl, by go_grown⟩

theorem walk_SidesOfChords (p : Int) (v : Value) (xs : List (Int × Int)) (w : World) (_ : (Lit.int .i64 p).wf = true) (hA : ArgP w v xs) :
    Calls Try.prog 4 #[.int .i64 p, v] w fun e w' => e = .returned (.bool true) ∧ Below w.heap.size w w' := by
  by_cases hn : xs.length ≤ 1048576
  · by_cases hg : goodC p xs
    · exact core_SidesOfChords p v xs _ _ w hA hn (fun W u B T h hT => sSides_yes p u xs B T W h hT hg) (fun W u B T h hT => iSides_yes p u xs B T W h hT hg)
    · exact core_SidesOfChords p v xs _ _ w hA hn (fun W u B T h hT => sSides_no p u xs B T W h hT hg) (fun W u B T h hT => iSides_no p u xs B T W h hT hg)
  · exact long_SidesOfChords p v xs w hA hn

end Go.Proofs.Ytinjldakmjganaa
