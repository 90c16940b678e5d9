/- Loops that can be drawn: letters in two halves, by the program. -/
import Derived.Test.YtpcebcgmbngababJZ
namespace Go.Proofs.Ytpcebcgmbngabab
open Go.RowKit
set_option linter.unusedVariables false

/-- How many of the first n integers of block g are 0. -/
def zeroAt (w : World) (g i : Nat) : Bool := match w.cell? ⟨g, i, none⟩ with
  | some (.int .i64 x) => x == 0
  | _ => false

def zerosW (w : World) (g n : Nat) : Nat := (List.range n).countP (zeroAt w g)

theorem zerosW_ints {w : World} {g n : Nat} {h : List Int} (hl : h.length = n) (hc : ∀ i, i < n → w.cell? ⟨g, i, none⟩ = some (.int .i64 (h.getD i 0))) : zerosW w g n = zerosI h := by
  have h1 : (List.range n).map (fun i => h.getD i 0) = h := by
    apply List.ext_getElem (by simp [hl])
    intro i h1 h2
    simp [List.getD, List.getElem?_eq_getElem h2]
  unfold zerosW zerosI
  rw [List.count, ← h1, List.countP_map]
  apply List.countP_congr
  intro i hi
  have hi' := List.mem_range.1 hi
  unfold zeroAt
  rw [hc i hi']
  rfl

theorem selT_mem (c : Nat → Bool) (n p : Nat) (hp : p < (selT c n).length) : ∃ j, j < n ∧ c j = true ∧ (selT c n).getD p 0 = (j : Int) := by
  rw [List.getD, List.getElem?_eq_getElem hp]
  have hm := List.getElem_mem hp
  unfold selT at hm
  rw [List.mem_map] at hm
  obtain ⟨k, hk, e⟩ := hm
  have h2 := List.mem_filter.1 hk
  exact ⟨k, List.mem_range.1 h2.1, h2.2, e.symm⟩

theorem selT_all (c : Nat → Bool) (n j : Nat) (hj : j < n) (hc : c j = true) : ∃ p, p < (selT c n).length ∧ (selT c n).getD p 0 = (j : Int) := by
  have hm : (j : Int) ∈ selT c n := by
    unfold selT
    rw [List.mem_map]
    exact ⟨j, List.mem_filter.2 ⟨List.mem_range.2 hj, hc⟩, rfl⟩
  obtain ⟨p, hp, e⟩ := List.mem_iff_getElem.1 hm
  exact ⟨p, hp, by rw [List.getD, List.getElem?_eq_getElem hp]; exact e⟩

set_option maxHeartbeats 1000000 in
theorem indexI_any (g n cap : Nat) (ys : List Int) (x : Int) (w : World) (hl : ys.length = n) (hn : n ≤ 1000) (hc : ∀ i, i < n → w.cell? ⟨g, i, none⟩ = some (.int .i64 (ys.getD i 0))) :
    Calls Try.prog 125 #[.slice (some ⟨g, 0, none⟩) n cap, .int .i64 x] w fun e w' => e = .returned (.int .i64 (if ys.idxOf x < n then (ys.idxOf x : Int) else -1)) ∧ w = w' := by
  have HC := Lib.hid hc
  have hxl : ys.idxOf x ≤ n := by rw [← hl]; exact List.idxOf_le_length
  have HI := Lib.hid (fun k (hk : k < n) => show (ys.getD k 0 = x → ∀ _ : k ≤ ys.idxOf x, ys.idxOf x = k) ∧ (ys.idxOf x = k → ys.getD k 0 = x) from ⟨fun e hle => by
      rw [List.getD, List.getElem?_eq_getElem (by omega)] at e
      simp only [Option.getD_some] at e
      rcases Nat.lt_or_ge k (ys.idxOf x) with h | h
      · exact absurd e (by have := List.not_of_lt_findIdx (xs := ys) (p := (· == x)) h; simpa using this)
      · omega, fun e => by
      have hl2 : ys.idxOf x < ys.length := by omega
      have hl3 := List.getElem_idxOf hl2
      simp only [e] at hl3
      rw [List.getD, List.getElem?_eq_getElem (by omega)]
      exact hl3⟩)
  obtain ⟨q, hx⟩ : ∃ q, ys.idxOf x = q := ⟨_, rfl⟩
  rw [hx] at hxl ⊢
  obtain ⟨v, hv⟩ : ∃ v, (if q < n then (q : Int) else -1) = v := ⟨_, rfl⟩
  rw [hv]
  have HV := Lib.hid hv
  have HX := Lib.hid hx
  clear hc hx hl hv
  go_enter Try.func125, Try.ntmps125
  go_wp2
  go_loopw [8] (fun i wr => ∃ k : Nat, k ≤ n ∧ k ≤ q ∧ i = .int .i64 k ∧ w = wr) (fun i _ => n - (intOf i).toNat)
  case atStart => exact ⟨0, by omega, by omega, rfl, rfl⟩
  case round =>
    obtain ⟨k, hk, hkx, rfl, rfl⟩ := hrel
    by_cases hlt : k < n
    · have cc := HC.out k hlt
      obtain ⟨y, hy⟩ : ∃ y, ys.getD k 0 = y := ⟨_, rfl⟩
      rw [hy] at cc
      have HY := Lib.hid hy
      have k0 : 0 ≤ (k : Int) := by omega
      have k1 : (k : Int) < (n : Int) := by omega
      clear hy
      by_cases hyd : x = y
      · have hxk : q = k := by rw [← HX.out]; exact (HI.out k hlt).1 (by rw [HY.out, hyd]) (by rw [HX.out]; exact hkx)
        subst hyd
        subst hxk
        have HV2 := Lib.hid (show (q : Int) = v by rw [← HV.out, if_pos hlt])
        go_wp2
        go_ret
        exact ⟨by rw [← HV2.out]; rfl, rfl⟩
      · have hxk : q ≠ k := fun e => hyd (by rw [← HY.out, (HI.out k hlt).2 (by rw [HX.out]; exact e)])
        have hne : (x == y) = false := beq_eq_false_iff_ne.2 hyd
        go_wp2
        go_roundw
        case rel => exact ⟨k + 1, by omega, by omega, by go_num, by trivial⟩
        case measure => simp [intOf]; omega
    · obtain rfl : k = n := by omega
      obtain rfl : q = k := by omega
      have HV2 := Lib.hid (show -1 = v by rw [← HV.out, if_neg (by omega)])
      go_wp2
      go_ret
      exact ⟨by rw [← HV2.out]; rfl, rfl⟩

set_option maxHeartbeats 4000000 in
set_option maxRecDepth 100000 in
theorem haveHalves_any (a0 : Option Addr) (n cap : Nat) (ps : List (Nat × Nat)) (B T : Nat) (w : World) (h : PairsIn 96 w B T (.slice a0 n cap) (pI ps)) (hT : T ≤ w.heap.size) (h8 : ps.length ≤ 8) :
    Calls Try.prog 111 #[.slice a0 n cap] w fun e w' => e = .returned (.bool (halvesB ps.length (lacedP ps) (evP ps))) ∧ Below w.heap.size w w' := by
  have hn9 := letters_len h
  have HSY := Lib.hid (fun i j (_ : i < ps.length) (_ : j < ps.length) => lacedP_comm ps i j)
  have hiff := halvesB_iff ps.length (lacedP ps) (evP ps) (fun i j _ _ => lacedP_comm ps i j) (fun i j _ _ => evP_comm ps i j) (fun i _ => lacedP_self ps i)
  have HNO := Lib.hid (fun (hc : ¬ ∃ col, Fits ps.length (lacedP ps) (evP ps) col) => show halvesB ps.length (lacedP ps) (evP ps) = false by
    rw [Bool.eq_false_iff]; exact fun e => hc (hiff.1 e))
  have HYES := Lib.hid (fun hc => hiff.2 hc)
  have HWO := Lib.hid (fun x W (hx : x < ps.length) (hb : Below w.heap.size w W) => withOne_any a0 n cap ps B T x W (h.keep (belowSame hb hT)) (Nat.le_trans hT hb.size) hx h8)
  have HEV := Lib.hid (fun x y W (hx : x < ps.length) (hy : y < ps.length) (hb : Below w.heap.size w W) => isEvenWithBoth_any a0 n cap ps B T x y W (h.keep (belowSame hb hT)) (Nat.le_trans hT hb.size) hx hy h8)
  obtain ⟨R, hR⟩ : ∃ R, halvesB ps.length (lacedP ps) (evP ps) = R := ⟨_, rfl⟩
  rw [hR] at HNO HYES ⊢
  rw [← hn9] at HSY HNO HYES HWO HEV h8
  obtain ⟨LA, hLA⟩ : ∃ LA, lacedP ps = LA := ⟨_, rfl⟩
  obtain ⟨EV, hEV⟩ : ∃ EV, evP ps = EV := ⟨_, rfl⟩
  rw [hLA] at HSY HNO HYES HWO
  rw [hEV] at HNO HYES HEV
  have hmk := make_ints (P := Try.prog) Try.underlying39 info_int n (by omega)
  have HI0 := Lib.hid (Ints.made w w.heap.size 3 n (Nat.le_refl _) (by omega))
  have HST := Lib.hid (HInv.start n LA EV)
  clear h hR hLA hEV hn9 hiff
  go_enter Try.func111, Try.ntmps111
  go_wp2
  refine wp_scope_label1 0 (fun a' wr => ∃ (h : List Int) (u2 u4 u5 u6 u7 u8 u9 u10 u11 u12 u13 u14 u15 u16 u17 u18 u19 u20 u21 u22 u23 u24 u25 u26 u27 u28 u29 u30 u31 u32 u33 u34 u35 u36 u37 u38 u39 u40 u41 u42 u43 u44 u45 u46 u47 u48 u49 u50 u51 u52 u53 u54 u55 u56 u57 u58 u59 u60 u61 u62 u63 u64 u65 u66 : Value), a' = { tmps := #[.slice a0 n cap, undef, u2, .slice (some ⟨w.heap.size, 0, none⟩) n n, u4, u5, u6, u7, u8, u9, u10, u11, u12, u13, u14, u15, u16, u17, u18, u19, u20, u21, u22, u23, u24, u25, u26, u27, u28, u29, u30, u31, u32, u33, u34, u35, u36, u37, u38, u39, u40, u41, u42, u43, u44, u45, u46, u47, u48, u49, u50, u51, u52, u53, u54, u55, u56, u57, u58, u59, u60, u61, u62, u63, u64, u65, u66], defers := [] } ∧ HInv n LA EV h ∧ Ints wr w.heap.size 3 (.slice (some ⟨w.heap.size, 0, none⟩) n n) h ∧ Below w.heap.size w wr) (fun _ wr => zerosW wr w.heap.size n) rfl ?first ?pass
  case first =>
    go_wp2
    exact ⟨List.replicate n 0, _, _, _, _, _, _, _, _, _, _, _, _, _, _, _, _, _, _, _, _, _, _, _, _, _, _, _, _, _, _, _, _, _, _, _, _, _, _, _, _, _, _, _, _, _, _, _, _, _, _, _, _, _, _, _, _, _, _, _, _, _, _, _, _, rfl, HST.out, HI0.out, by go_grown⟩
  case pass =>
    rintro a' wr0 ⟨h, u2, u4, u5, u6, u7, u8, u9, u10, u11, u12, u13, u14, u15, u16, u17, u18, u19, u20, u21, u22, u23, u24, u25, u26, u27, u28, u29, u30, u31, u32, u33, u34, u35, u36, u37, u38, u39, u40, u41, u42, u43, u44, u45, u46, u47, u48, u49, u50, u51, u52, u53, u54, u55, u56, u57, u58, u59, u60, u61, u62, u63, u64, u65, u66, rfl, hH, hI, hB⟩
    have hl := hH.len
    have HH := Lib.hid hH
    have HZ0 := Lib.hid (show zerosW wr0 w.heap.size n = zerosI h from zerosW_ints hl (fun i hi => hI.cellAt i (by rw [hl]; exact hi)))
    have HI := Lib.hid hI
    have HB := Lib.hid hB
    have HL := Lib.hid hl
    have HNX := Lib.hid (fun q (hq : q < n) (hq0 : h.getD q 0 = 0) hC => hH.next HSY.out hC hq hq0)
    have HDN := Lib.hid (fun hC h0 => hH.done hC h0)
    have HVAL := Lib.hid (fun i (hi : i < n) => hH.val i hi)
    have HLED := Lib.hid (fun i j (hi : i < n) (hj : j < n) hl0 hi0 (hj0 : h.getD j 0 = 0) => show HInv n LA EV (h.set j (ledI (EV i j) (h.getD i 0))) from (hH.led hi hj hl0 hi0).resolve_right (fun e => e hj0))
    have HBAD := Lib.hid (fun i j (hi : i < n) (hj : j < n) hl0 hi0 hj0 hne => hH.bad (i := i) (j := j) hi hj hl0 hi0 hj0 hne)
    clear hH hI hB hl
    go_wp2
    go_loopw [15] (fun i wr => ∃ k : Nat, k ≤ n ∧ i = .int .i64 k ∧ Hid (∀ i j, i < k → j < n → LA i j = true → h.getD i 0 ≠ 0 → h.getD j 0 = ledI (EV i j) (h.getD i 0)) ∧ Ints wr w.heap.size 3 (.slice (some ⟨w.heap.size, 0, none⟩) n n) h ∧ Below w.heap.size w wr) (fun i _ => n - (intOf i).toNat)
    case atStart => exact ⟨0, by omega, rfl, Lib.hid (fun i j hi => by omega), HI.out, HB.out⟩
    case round =>
      obtain ⟨wo, rfl⟩ : ∃ z, z = wr := ⟨wr, rfl⟩
      obtain ⟨k, hk, rfl, HK, hI2, hB2⟩ := hrel
      have hz2 := hB2.size
      by_cases hlt : k < n
      · have k0 : 0 ≤ (k : Int) := by omega
        have k1 : (k : Int) < (n : Int) := by omega
        have hc := hI2.cellAt k (by rw [HL.out]; exact hlt)
        have hval := HVAL.out k hlt
        have HW := Lib.hid (HWO.out k wo hlt hB2)
        have HMEM := Lib.hid (fun p hp => selT_mem (LA k) n p hp)
        have HALL := Lib.hid (fun j hj hc => selT_all (LA k) n j hj hc)
        have HLE := Lib.hid (fun j (hj : j < n) hl0 => HLED.out k j hlt hj hl0)
        have HBA := Lib.hid (fun j (hj : j < n) hl0 => HBAD.out k j hlt hj hl0)
        have HE := Lib.hid (fun j W (hj : j < n) hb => HEV.out k j W hlt hj hb)
        have hslen := selT_length (LA k) n
        obtain ⟨xs, hxs⟩ : ∃ xs, selT (LA k) n = xs := ⟨_, rfl⟩
        rw [hxs] at HW HMEM HALL hslen
        obtain ⟨m, hm⟩ : ∃ m, xs.length = m := ⟨_, rfl⟩
        rw [hm] at HMEM HALL hslen
        obtain ⟨v, hv⟩ : ∃ v, h.getD k 0 = v := ⟨_, rfl⟩
        rw [hv] at hc hval HLE HBA
        have HV := Lib.hid hv
        have HM := Lib.hid hm
        have HI2 := Lib.hid hI2
        have HB2 := Lib.hid hB2
        have hwv : IntKind.i64.wrap (-v) = -v := by rw [IntKind.wrap_i64]; omega
        clear hxs hm hv hI2 hB2
        go_wp2_with (first | (go_at_call 122; (refine HW.out.mono ?_); rintro e w3 ⟨v3, rfl, hI3, hb3⟩; (obtain ⟨a3, c3, g3, rfl, ha3, _, _, hg3, hc3, _⟩ := hI3.view); (rw [HM.out] at ha3 hg3 hc3 ⊢); (have HC3 := Lib.hid hc3); (have HG3 := Lib.hid hg3); (have HI3 := Lib.hid (HI2.out.later hb3)); (have HB3 := Lib.hid (HB2.out.trans (hb3.mono hz2))); (have hz3 := HB3.out.size); clear hI3 hb3 hc3 hg3))
        go_loopw [24] (fun i wr => ∃ p : Nat, p ≤ m ∧ i = .int .i64 p ∧ Hid (∀ p' j : Nat, p' < p → j < n → xs.getD p' 0 = (j : Int) → v ≠ 0 → h.getD j 0 = ledI (EV k j) v) ∧ Ints wr w.heap.size 3 (.slice (some ⟨w.heap.size, 0, none⟩) n n) h ∧ Below w3.heap.size w3 wr) (fun i _ => m - (intOf i).toNat)
        case atStart => exact ⟨0, by omega, rfl, Lib.hid (fun p' j hp => by omega), HI3.out, Below.refl _ _⟩
        case round =>
          obtain ⟨wi, rfl⟩ : ∃ z, z = wr := ⟨wr, rfl⟩
          obtain ⟨p, hp, rfl, HP, hI4, hB4⟩ := hrel
          have hz4 := hB4.size
          by_cases hlp : p < m
          · obtain rfl := ha3 (by omega)
            obtain ⟨j, hj, hLj, hxj⟩ := HMEM.out p hlp
            have hcj := cellB hB4 (HC3.out p hlp)
            rw [hxj] at hcj
            have p0 : 0 ≤ (p : Int) := by omega
            have p1 : (p : Int) < (m : Int) := by omega
            have j0 : 0 ≤ (j : Int) := by omega
            have j1 : (j : Int) < (n : Int) := by omega
            have HB4 := Lib.hid (HB3.out.trans (hB4.mono hz3))
            have HB43 := Lib.hid hB4
            have HEj := Lib.hid (HE.out j wi hj HB4.out)
            have hy0 := hI4.cellAt j (by rw [HL.out]; exact hj)
            have hle := HLE.out j hj hLj
            have hba := HBA.out j hj hLj
            have HI4 := Lib.hid hI4
            have HXJ := Lib.hid hxj
            have HPN := Lib.hid (fun (q : h.getD j 0 = ledI (EV k j) v ∨ v = 0) => show ∀ p' j' : Nat, p' < p + 1 → j' < n → xs.getD p' 0 = (j' : Int) → v ≠ 0 → h.getD j' 0 = ledI (EV k j') v from fun p' j' hp' hj' hx' hv0 => by
              by_cases e : p' = p
              · subst e
                rw [HXJ.out] at hx'
                obtain rfl : j = j' := by omega
                exact q.resolve_right hv0
              · exact HP.out p' j' (by omega) hj' hx' hv0)
            obtain ⟨y, hy⟩ : ∃ y, h.getD j 0 = y := ⟨_, rfl⟩
            rw [hy] at hle hba HPN hy0
            have HY := Lib.hid hy
            have HJL := Lib.hid (show j < h.length by rw [HL.out]; exact hj)
            clear hB4 hI4 hxj hy hLj

            cases ht : EV k j with
            | true =>
              rw [ht] at hle hba HPN
              by_cases hv1 : v = 0
              · subst hv1
                have HEV5 := Lib.hid ht
                have HP2 := Lib.hid (HPN.out (.inr rfl))
                clear hle hba ht
                go_wp2_with (first | (go_at_call 124; (refine HEj.out.mono ?_); rintro e w5 ⟨rfl, hb5⟩; (rw [HEV5.out]); (have hI5 := HI4.out.later hb5); (have cj5 := hI5.cellAt j HJL.out); (rw [HY.out] at cj5); (have fj5 := hI5.frozenAt j); (have HI5 := Lib.hid hI5); (have HB5 := Lib.hid (HB43.out.trans (hb5.mono hz4))); (have HB5w := Lib.hid (HB4.out.trans (hb5.mono HB4.out.size))); clear hI5 hb5))
                go_roundw
                case rel => exact ⟨p + 1, by omega, by go_num, HP2, HI5.out, HB5.out⟩
                case measure => simp [intOf]; omega
              · have hv0 : v ≠ 0 := hv1
                clear hv1
                obtain ⟨L, hLed⟩ : ∃ L, ledI true v = L := ⟨_, rfl⟩
                have hneg : -v = L := by rw [← hLed]; rfl
                rw [hneg] at hwv
                rw [hLed] at hle
                by_cases hy1 : y = 0
                · skip
                  have HEV5 := Lib.hid ht
                  have f1 : (L != 0) = true := bne_iff_ne.2 (by omega)
                  have f2 : (y == 0) = true := beq_iff_eq.2 hy1
                  have HS := Lib.hid (hle hv0 hy1)
                  have HZS := Lib.hid (zerosI_set h j L HJL.out (HY.out.trans hy1) (by omega))
                  have HLD := Lib.hid hLed
                  clear hle hba ht hLed hv0 hy1
                  go_wp2_with (first | (go_at_call 124; (refine HEj.out.mono ?_); rintro e w5 ⟨rfl, hb5⟩; (rw [HEV5.out]); (have hI5 := HI4.out.later hb5); (have cj5 := hI5.cellAt j HJL.out); (rw [HY.out] at cj5); (have fj5 := hI5.frozenAt j); (have HI5 := Lib.hid hI5); (have HB5 := Lib.hid (HB43.out.trans (hb5.mono hz4))); (have HB5w := Lib.hid (HB4.out.trans (hb5.mono HB4.out.size))); clear hI5 hb5))
                  (try go_step3)
                  have hIS := HI5.out.stored j L
                  refine ⟨rfl, ⟨h.set j L, _, _, _, _, _, _, _, _, _, _, _, _, _, _, _, _, _, _, _, _, _, _, _, _, _, _, _, _, _, _, _, _, _, _, _, _, _, _, _, _, _, _, _, _, _, _, _, _, _, _, _, _, _, _, _, _, _, _, _, _, _, _, _, _, rfl, HS.out, hIS.1, HB5w.out.setCell (Nat.le_refl _) _⟩, ?_⟩
                  rw [HZ0.out, zerosW_ints (h := h.set j L) (by rw [List.length_set, HL.out]) (fun i hi => hIS.1.cellAt i (by rw [List.length_set, HL.out]; exact hi))]
                  have := HZS.out
                  omega
                · by_cases hy2 : y = L
                  · skip
                    have HEV5 := Lib.hid ht
                    have f1 : (L != 0) = true := bne_iff_ne.2 (by omega)
                    have f2 : (y == 0) = false := beq_eq_false_iff_ne.2 hy1
                    have f3 : (y != L) = false := by rw [hy2]; simp
                    have HP2 := Lib.hid (HPN.out (.inl (hy2.trans hLed.symm)))
                    have HLD := Lib.hid hLed
                    clear hle hba ht hLed hv0 hy1 hy2
                    go_wp2_with (first | (go_at_call 124; (refine HEj.out.mono ?_); rintro e w5 ⟨rfl, hb5⟩; (rw [HEV5.out]); (have hI5 := HI4.out.later hb5); (have cj5 := hI5.cellAt j HJL.out); (rw [HY.out] at cj5); (have fj5 := hI5.frozenAt j); (have HI5 := Lib.hid hI5); (have HB5 := Lib.hid (HB43.out.trans (hb5.mono hz4))); (have HB5w := Lib.hid (HB4.out.trans (hb5.mono HB4.out.size))); clear hI5 hb5))
                    go_roundw
                    case rel => exact ⟨p + 1, by omega, by go_num, HP2, HI5.out, HB5.out⟩
                    case measure => simp [intOf]; omega
                  · skip
                    have HEV5 := Lib.hid ht
                    have f1 : (L != 0) = true := bne_iff_ne.2 (by omega)
                    have f2 : (y == 0) = false := beq_eq_false_iff_ne.2 hy1
                    have f3 : (y != L) = true := bne_iff_ne.2 hy2
                    have HF := Lib.hid (HNO.out (hba hv0 hy1 (fun e => hy2 (e.trans hLed))))
                    have HLD := Lib.hid hLed
                    clear hle hba ht hLed hv0 hy1 hy2
                    go_wp2_with (first | (go_at_call 124; (refine HEj.out.mono ?_); rintro e w5 ⟨rfl, hb5⟩; (rw [HEV5.out]); (have hI5 := HI4.out.later hb5); (have cj5 := hI5.cellAt j HJL.out); (rw [HY.out] at cj5); (have fj5 := hI5.frozenAt j); (have HI5 := Lib.hid hI5); (have HB5 := Lib.hid (HB43.out.trans (hb5.mono hz4))); (have HB5w := Lib.hid (HB4.out.trans (hb5.mono HB4.out.size))); clear hI5 hb5))
                    (try simp only [Exit.jump])
                    go_ret
                    exact ⟨by rw [HF.out]; rfl, HB5w.out⟩
            | false =>
              have hf := ht
              clear ht
              rw [hf] at hle hba HPN
              by_cases hv1 : v = 0
              · subst hv1
                have HEV5 := Lib.hid hf
                have HP2 := Lib.hid (HPN.out (.inr rfl))
                clear hle hba hf
                go_wp2_with (first | (go_at_call 124; (refine HEj.out.mono ?_); rintro e w5 ⟨rfl, hb5⟩; (rw [HEV5.out]); (have hI5 := HI4.out.later hb5); (have cj5 := hI5.cellAt j HJL.out); (rw [HY.out] at cj5); (have fj5 := hI5.frozenAt j); (have HI5 := Lib.hid hI5); (have HB5 := Lib.hid (HB43.out.trans (hb5.mono hz4))); (have HB5w := Lib.hid (HB4.out.trans (hb5.mono HB4.out.size))); clear hI5 hb5))
                go_roundw
                case rel => exact ⟨p + 1, by omega, by go_num, HP2, HI5.out, HB5.out⟩
                case measure => simp [intOf]; omega
              · have hv0 : v ≠ 0 := hv1
                clear hv1
                have hLed : ledI false v = v := rfl
                rw [hLed] at hle
                by_cases hy1 : y = 0
                · skip
                  have HEV5 := Lib.hid hf
                  have f1 : (v != 0) = true := bne_iff_ne.2 (by omega)
                  have f2 : (y == 0) = true := beq_iff_eq.2 hy1
                  have HS := Lib.hid (hle hv0 hy1)
                  have HZS := Lib.hid (zerosI_set h j v HJL.out (HY.out.trans hy1) (by omega))
                  have HLD := Lib.hid hLed
                  clear hle hba hf hLed hv0 hy1
                  go_wp2_with (first | (go_at_call 124; (refine HEj.out.mono ?_); rintro e w5 ⟨rfl, hb5⟩; (rw [HEV5.out]); (have hI5 := HI4.out.later hb5); (have cj5 := hI5.cellAt j HJL.out); (rw [HY.out] at cj5); (have fj5 := hI5.frozenAt j); (have HI5 := Lib.hid hI5); (have HB5 := Lib.hid (HB43.out.trans (hb5.mono hz4))); (have HB5w := Lib.hid (HB4.out.trans (hb5.mono HB4.out.size))); clear hI5 hb5))
                  (try go_step3)
                  have hIS := HI5.out.stored j v
                  refine ⟨rfl, ⟨h.set j v, _, _, _, _, _, _, _, _, _, _, _, _, _, _, _, _, _, _, _, _, _, _, _, _, _, _, _, _, _, _, _, _, _, _, _, _, _, _, _, _, _, _, _, _, _, _, _, _, _, _, _, _, _, _, _, _, _, _, _, _, _, _, _, _, rfl, HS.out, hIS.1, HB5w.out.setCell (Nat.le_refl _) _⟩, ?_⟩
                  rw [HZ0.out, zerosW_ints (h := h.set j v) (by rw [List.length_set, HL.out]) (fun i hi => hIS.1.cellAt i (by rw [List.length_set, HL.out]; exact hi))]
                  have := HZS.out
                  omega
                · by_cases hy2 : y = v
                  · skip
                    have HEV5 := Lib.hid hf
                    have f1 : (v != 0) = true := bne_iff_ne.2 (by omega)
                    have f2 : (y == 0) = false := beq_eq_false_iff_ne.2 hy1
                    have f3 : (y != v) = false := by rw [hy2]; simp
                    have HP2 := Lib.hid (HPN.out (.inl (hy2.trans hLed.symm)))
                    have HLD := Lib.hid hLed
                    clear hle hba hf hLed hv0 hy1 hy2
                    go_wp2_with (first | (go_at_call 124; (refine HEj.out.mono ?_); rintro e w5 ⟨rfl, hb5⟩; (rw [HEV5.out]); (have hI5 := HI4.out.later hb5); (have cj5 := hI5.cellAt j HJL.out); (rw [HY.out] at cj5); (have fj5 := hI5.frozenAt j); (have HI5 := Lib.hid hI5); (have HB5 := Lib.hid (HB43.out.trans (hb5.mono hz4))); (have HB5w := Lib.hid (HB4.out.trans (hb5.mono HB4.out.size))); clear hI5 hb5))
                    go_roundw
                    case rel => exact ⟨p + 1, by omega, by go_num, HP2, HI5.out, HB5.out⟩
                    case measure => simp [intOf]; omega
                  · skip
                    have HEV5 := Lib.hid hf
                    have f1 : (v != 0) = true := bne_iff_ne.2 (by omega)
                    have f2 : (y == 0) = false := beq_eq_false_iff_ne.2 hy1
                    have f3 : (y != v) = true := bne_iff_ne.2 hy2
                    have HF := Lib.hid (HNO.out (hba hv0 hy1 (fun e => hy2 (e.trans hLed))))
                    have HLD := Lib.hid hLed
                    clear hle hba hf hLed hv0 hy1 hy2
                    go_wp2_with (first | (go_at_call 124; (refine HEj.out.mono ?_); rintro e w5 ⟨rfl, hb5⟩; (rw [HEV5.out]); (have hI5 := HI4.out.later hb5); (have cj5 := hI5.cellAt j HJL.out); (rw [HY.out] at cj5); (have fj5 := hI5.frozenAt j); (have HI5 := Lib.hid hI5); (have HB5 := Lib.hid (HB43.out.trans (hb5.mono hz4))); (have HB5w := Lib.hid (HB4.out.trans (hb5.mono HB4.out.size))); clear hI5 hb5))
                    (try simp only [Exit.jump])
                    go_ret
                    exact ⟨by rw [HF.out]; rfl, HB5w.out⟩
          · obtain rfl : p = m := by omega
            have HK2 := Lib.hid (show ∀ i j, i < k + 1 → j < n → LA i j = true → h.getD i 0 ≠ 0 → h.getD j 0 = ledI (EV i j) (h.getD i 0) from fun i j hi hj hl0 hi0 => by
              by_cases e : i = k
              · subst e
                rw [HV.out] at hi0 ⊢
                obtain ⟨p', hp', hx'⟩ := HALL.out j hj hl0
                exact HP.out p' j hp' hj hx' hi0
              · exact HK.out i j (by omega) hj hl0 hi0)
            have HI4 := Lib.hid hI4
            have HB4 := Lib.hid (HB3.out.trans (hB4.mono hz3))
            clear hI4 hB4
            go_wp2
            go_roundw
            case rel => exact ⟨k + 1, by omega, by go_num, HK2, HI4.out, HB4.out⟩
            case measure => simp [intOf]; omega
      · obtain rfl : k = n := by omega
        have HI2 := Lib.hid hI2
        have HB2 := Lib.hid hB2
        have HIX := Lib.hid (indexI_any w.heap.size k k h 0 wo HL.out (by omega) (fun i hi => hI2.cellAt i (by rw [HL.out]; exact hi)))
        obtain ⟨q, hq⟩ : ∃ q, h.idxOf 0 = q := ⟨_, rfl⟩
        rw [hq] at HIX
        by_cases hqk : q < k
        · have hq0 : h.getD q 0 = 0 := by
            have hl2 : h.idxOf 0 < h.length := by rw [hq, HL.out]; exact hqk
            have hl3 := List.getElem_idxOf hl2
            simp only [hq] at hl3
            rw [List.getD, List.getElem?_eq_getElem (by rw [HL.out]; exact hqk)]
            exact hl3
          rw [if_pos hqk] at HIX
          have HS := Lib.hid (HNX.out q hqk hq0 HK.out)
          have HZS := Lib.hid (zerosI_set h q 1 (by rw [HL.out]; exact hqk) hq0 (by omega))
          have cq := hI2.cellAt q (by rw [HL.out]; exact hqk)
          have fq := hI2.frozenAt q
          have q0 : 0 ≤ (q : Int) := by omega
          have q1 : (q : Int) < (k : Int) := by omega
          clear hq hq0 hI2 hB2
          go_wp2_with (first | (go_at_call 125; (with_reducible refine HIX.out.mono ?_); rintro e w5 ⟨rfl, rfl⟩))
          (try go_step3)
          have hIS := HI2.out.stored q 1
          refine ⟨rfl, ⟨h.set q 1, _, _, _, _, _, _, _, _, _, _, _, _, _, _, _, _, _, _, _, _, _, _, _, _, _, _, _, _, _, _, _, _, _, _, _, _, _, _, _, _, _, _, _, _, _, _, _, _, _, _, _, _, _, _, _, _, _, _, _, _, _, _, _, _, rfl, HS.out, hIS.1, HB2.out.setCell (Nat.le_refl _) _⟩, ?_⟩
          rw [HZ0.out, zerosW_ints (h := h.set q 1) (by rw [List.length_set, HL.out]) (fun i hi => hIS.1.cellAt i (by rw [List.length_set, HL.out]; exact hi))]
          have := HZS.out
          omega
        · rw [if_neg hqk] at HIX
          have HF := Lib.hid (HYES.out (HDN.out HK.out (fun i hi e => by
            have hm : (0 : Int) ∈ h := by
              rw [List.getD, List.getElem?_eq_getElem (by rw [HL.out]; exact hi)] at e
              simp only [Option.getD_some] at e
              rw [← e]
              exact List.getElem_mem _
            have := List.idxOf_lt_length_iff.2 hm
            rw [hq, HL.out] at this
            exact hqk this)))
          clear hq hI2 hB2
          go_wp2_with (first | (go_at_call 125; (with_reducible refine HIX.out.mono ?_); rintro e w5 ⟨rfl, rfl⟩))
          (try simp only [Exit.jump])
          go_ret
          exact ⟨by rw [HF.out]; rfl, HB2.out⟩

end Go.Proofs.Ytpcebcgmbngabab
