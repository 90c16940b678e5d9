/- Loops that can be drawn: the model, and the law of CanBeDrawn. -/
import Derived.Test.YtpcebcgmbngababJ0
import Derived.Test.YtpcebcgmbngababJZ
namespace Go.Proofs.Ytpcebcgmbngabab
open Go.RowKit
set_option linter.unusedVariables false

/-- Can a loop with these letters be drawn? -/
def drawnP (ps : List (Nat × Nat)) : Bool := evenP ps && apartP ps && halvesB ps.length (lacedP ps) (evP ps)

theorem and_oneL : ∀ x : Fin 1024, bits BinOp.and IntKind.i64 ((x.1 : Nat) : Int) 1 = ((x.1 % 2 : Nat) : Int) := by decide +kernel

theorem and_oneN (x : Nat) (h : x < 1024) : bits BinOp.and IntKind.i64 (x : Int) 1 = ((x % 2 : Nat) : Int) := and_oneL ⟨x, h⟩

theorem testBit_mod (m a : Nat) : m.testBit a = decide (m / 2 ^ a % 2 = 1) := Nat.testBit_eq_decide_div_mod_eq

/-- Does one pair of letters fit the halves told by m? -/
def okM (la ev : Nat → Nat → Bool) (m a b : Nat) : Bool := !(la a b && ((m.testBit a != m.testBit b) != ev a b))

theorem fitsM_no {n m a b : Nat} {la ev : Nat → Nat → Bool} (ha : a < n) (hb : b < a) (h : okM la ev m a b = false) : fitsM n la ev m = false := by
  rw [Bool.eq_false_iff]
  intro e
  simp only [fitsM, List.all_eq_true, List.mem_range] at e
  have := e a ha b hb
  unfold okM at h
  rw [h] at this
  cases this

theorem fitsM_yes {n m : Nat} {la ev : Nat → Nat → Bool} (h : ∀ a, a < n → ∀ b, b < a → okM la ev m a b = true) : fitsM n la ev m = true := by
  simp only [fitsM, List.all_eq_true, List.mem_range]
  exact h

theorem halves_yes {n m : Nat} {la ev : Nat → Nat → Bool} (hm : m < 2 ^ n) (h : fitsM n la ev m = true) : halvesB n la ev = true := by
  simp only [halvesB, List.any_eq_true, List.mem_range]
  exact ⟨m, hm, h⟩

theorem halves_no {n : Nat} {la ev : Nat → Nat → Bool} (h : ∀ m, m < 2 ^ n → fitsM n la ev m = false) : halvesB n la ev = false := by
  rw [Bool.eq_false_iff]
  intro e
  simp only [halvesB, List.any_eq_true, List.mem_range] at e
  obtain ⟨m, hm, e⟩ := e
  rw [h m hm] at e
  cases e

theorem mod_ne (x y : Nat) (hx : x < 2) (hy : y < 2) : ((x : Int) != (y : Int)) = (decide (x = 1) != decide (y = 1)) := by
  rcases (by omega : x = 0 ∨ x = 1) with rfl | rfl <;> rcases (by omega : y = 0 ∨ y = 1) with rfl | rfl <;> rfl

set_option maxHeartbeats 8000000 in
set_option maxRecDepth 100000 in
theorem loDrawn_any (t : ByteArray) (ps : List (Nat × Nat)) (w : World) (h : LoopP t.data.toList ps) :
    Calls Try.prog 59 #[.string t] w fun e w' => e = .returned (.bool (drawnP ps)) ∧ Below w.heap.size w w' := by
  have hs := h.size
  have hfew := h.few
  have HEV := Lib.hid (fun W => loEven_any t ps W h)
  have HLA := Lib.hid (fun x y dx dy (hx : x < ps.length) (hy : y < ps.length) (hdx : dx = 97 + x) (hdy : dy = 97 + y) W => loLaced_any t ps x y dx dy W h hx hy hdx hdy)
  have HBO := Lib.hid (fun x y dx dy (hx : x < ps.length) (hy : y < ps.length) (hdx : dx = 97 + x) (hdy : dy = 97 + y) W => loBoth_any t ps x y dx dy W h hx hy hdx hdy)
  have HBL := Lib.hid (fun x y => show (selT (bothC ps x y) ps.length).length ≤ ps.length ∧ evP ps x y = ((selT (bothC ps x y) ps.length).length % 2 == 0) from ⟨selT_length _ _, rfl⟩)
  have HAP := Lib.hid (fun x y => show apartB ps x y = (lacedP ps x y || evP ps x y) from rfl)
  have HAN := Lib.hid (fun i j (hi : i < ps.length) hj h => apartP_no (ps := ps) (i := i) (j := j) hi hj h)
  have HAY := Lib.hid (fun h => apartP_yes (ps := ps) h)
  have HFN := Lib.hid (fun m a b (ha : a < ps.length) (hb : b < a) h => fitsM_no (m := m) (la := lacedP ps) (ev := evP ps) ha hb h)
  have HFY := Lib.hid (fun m h => fitsM_yes (n := ps.length) (m := m) (la := lacedP ps) (ev := evP ps) h)
  have HHY := Lib.hid (fun m (hm : m < 2 ^ ps.length) h => halves_yes (m := m) (la := lacedP ps) (ev := evP ps) hm h)
  have HHN := Lib.hid (fun h => halves_no (n := ps.length) (la := lacedP ps) (ev := evP ps) h)
  have HOK := Lib.hid (fun m a b => show okM (lacedP ps) (evP ps) m a b = !(lacedP ps a b && ((m.testBit a != m.testBit b) != evP ps a b)) from rfl)
  have HD : Hid (drawnP ps = (evenP ps && apartP ps && halvesB ps.length (lacedP ps) (evP ps))) := Lib.hid rfl
  obtain ⟨n, hn⟩ : ∃ n, ps.length = n := ⟨_, rfl⟩
  obtain ⟨LA, hLA⟩ : ∃ C, lacedP ps = C := ⟨_, rfl⟩
  obtain ⟨EV, hEV⟩ : ∃ C, evP ps = C := ⟨_, rfl⟩
  obtain ⟨BN, hBN⟩ : ∃ C, (fun x y => (selT (bothC ps x y) n).length) = C := ⟨_, rfl⟩
  obtain ⟨FM, hFM⟩ : ∃ C, fitsM n LA EV = C := ⟨_, rfl⟩
  obtain ⟨OK, hOK⟩ : ∃ C, okM LA EV = C := ⟨_, rfl⟩
  obtain ⟨AP, hAP⟩ : ∃ C, apartB ps = C := ⟨_, rfl⟩
  obtain ⟨c1, hc1⟩ : ∃ c, evenP ps = c := ⟨_, rfl⟩
  obtain ⟨c2, hc2⟩ : ∃ c, apartP ps = c := ⟨_, rfl⟩
  obtain ⟨c3, hc3⟩ : ∃ c, halvesB n LA EV = c := ⟨_, rfl⟩
  obtain ⟨R, hR⟩ : ∃ R, drawnP ps = R := ⟨_, rfl⟩
  have hB1 : ∀ x y, (selT (bothC ps x y) n).length = BN x y := fun x y => congrFun (congrFun hBN x) y
  rw [hn] at hs hfew
  simp only [hn, hLA, hEV, hFM, hOK, hAP, hB1, hc1, hc2, hc3, hR] at HLA HBO HBL HAP HAN HAY HFN HFY HHY HHN HOK HD HEV
  rw [hR]
  obtain ⟨z, hz⟩ : ∃ z, t.size = z := ⟨_, rfl⟩
  have hd : Int.tdiv (z : Int) 2 = (n : Int) := by rw [Int.tdiv_eq_ediv_of_nonneg (by omega)]; omega
  have hwn : IntKind.i64.wrap (n : Int) = (n : Int) := by rw [IntKind.wrap_i64]; omega
  have hp2 : 2 ^ n ≤ 2 ^ 8 := Nat.pow_le_pow_right (by omega) hfew
  obtain ⟨N, hN⟩ : ∃ N, 2 ^ n = N := ⟨_, rfl⟩
  have hshl : (2 : Int) ^ n = (N : Int) := by rw [← hN]; simp
  have hwN : IntKind.i64.wrap (N : Int) = (N : Int) := by rw [IntKind.wrap_i64]; omega
  rw [hN] at HHY HHN hp2
  have hn64 : (n : Int) ≤ 64 := by omega
  have hn0 : 0 ≤ (n : Int) := by omega
  have HZ := Lib.hid hz
  clear hs h hn hLA hEV hBN hFM hOK hAP hc1 hc2 hc3 hR hB1 hN
  cases c1 with
  | false =>
    go_enter Try.func59, Try.ntmps59
    go_wp2_with (first | (go_at_call 82; (with_reducible refine (HEV.out _).mono ?_); rintro e w1 ⟨rfl, rfl⟩))
    go_ret
    exact ⟨by rw [HD.out]; rfl, Below.refl _ _⟩
  | true =>
    go_enter Try.func59, Try.ntmps59
    go_wp2_with (first | (go_at_call 82; (with_reducible refine (HEV.out _).mono ?_); rintro e w1 ⟨rfl, rfl⟩; clear HEV))
    go_loopw [4] (fun i wr => ∃ k : Nat, k ≤ n ∧ i = .int .i64 k ∧ Hid (∀ i, i < k → ∀ j, j < i → AP i j = true) ∧ w = wr) (fun i _ => n - (intOf i).toNat)
    case atStart => exact ⟨0, by omega, rfl, Lib.hid (fun i hi => by omega), rfl⟩
    case round =>
      obtain ⟨k, hk, rfl, HK, rfl⟩ := hrel
      by_cases hlt : k < n
      · obtain ⟨dk, hdk, h97, hw1, hw2⟩ := sign_of k (by omega)
        have HDK := Lib.hid hdk
        have hwk : IntKind.i64.wrap ((k : Int) + 1) = (k : Int) + 1 := by rw [IntKind.wrap_i64]; omega
        clear hdk
        go_wp2
        go_loopw [5] (fun i wr => ∃ q : Nat, q ≤ k ∧ i = .int .i64 q ∧ Hid (∀ j, j < q → AP k j = true) ∧ w = wr) (fun i _ => k - (intOf i).toNat)
        case atStart => exact ⟨0, by omega, rfl, Lib.hid (fun j hj => by omega), rfl⟩
        case round =>
          obtain ⟨q, hq, rfl, HQ, rfl⟩ := hrel
          by_cases hlq : q < k
          · obtain ⟨dq, hdq, g97, gw1, gw2⟩ := sign_of q (by omega)
            have HDQ := Lib.hid hdq
            have hwq : IntKind.i64.wrap ((q : Int) + 1) = (q : Int) + 1 := by rw [IntKind.wrap_i64]; omega
            have HA := Lib.hid (fun W => HLA.out k q dk dq hlt (by omega) HDK.out HDQ.out W)
            have HBB := Lib.hid (fun W => HBO.out k q dk dq hlt (by omega) HDK.out HDQ.out W)
            obtain ⟨b1, b2⟩ := HBL.out k q
            have hap := HAP.out k q
            have hno := HAN.out k q hlt hlq
            obtain ⟨s, hs⟩ : ∃ s, BN k q = s := ⟨_, rfl⟩
            rw [hs] at HBB b1 b2
            have htm : Int.tmod (s : Int) 2 = ((s % 2 : Nat) : Int) := by rw [Int.tmod_eq_emod_of_nonneg (by omega)]; omega
            obtain ⟨r, hr⟩ : ∃ r, s % 2 = r := ⟨_, rfl⟩
            rw [hr] at htm b2
            have hr2 : r < 2 := by omega
            have hwr : IntKind.i64.wrap (r : Int) = (r : Int) := by rw [IntKind.wrap_i64]; omega
            clear hdq hs hr

            cases h1 : LA k q with
            | true =>
              rw [h1] at HA hap
              have HQ2 := Lib.hid (show ∀ j, j < q + 1 → AP k j = true from fun j hj => by
                by_cases e : j = q
                · rw [e]; exact hap
                · exact HQ.out j (by omega))
              clear h1 hap hno b1 b2
              go_wp2_with (first | (go_at_call 83; (with_reducible refine (HA.out _).mono ?_); rintro e w1 ⟨rfl, rfl⟩))
              go_roundw
              case rel => exact ⟨q + 1, by omega, by go_num, HQ2, by trivial⟩
              case measure => simp [intOf]; omega
            | false =>
              rw [h1] at HA hap
              by_cases h0 : r = 0
              · subst h0
                have hev : EV k q = true := by rw [b2]; rfl
                rw [hev] at hap
                have HQ2 := Lib.hid (show ∀ j, j < q + 1 → AP k j = true from fun j hj => by
                  by_cases e : j = q
                  · rw [e]; exact hap
                  · exact HQ.out j (by omega))
                clear h1 hap hno b1 b2 hev
                go_wp2_with (first | (go_at_call 83; (with_reducible refine (HA.out _).mono ?_); rintro e w1 ⟨rfl, rfl⟩) | (go_at_call 84; (with_reducible refine (HBB.out _).mono ?_); rintro e w1 ⟨rfl, rfl⟩))
                go_roundw
                case rel => exact ⟨q + 1, by omega, by go_num, HQ2, by trivial⟩
                case measure => simp [intOf]; omega
              · have hev : EV k q = false := by rw [b2]; exact beq_eq_false_iff_ne.2 h0
                rw [hev] at hap
                have HF := Lib.hid (hno hap)
                have hne : ((r : Int) != 0) = true := bne_iff_ne.2 (by omega)
                clear h1 hap hno b1 b2 hev
                go_wp2_with (first | (go_at_call 83; (with_reducible refine (HA.out _).mono ?_); rintro e w1 ⟨rfl, rfl⟩) | (go_at_call 84; (with_reducible refine (HBB.out _).mono ?_); rintro e w1 ⟨rfl, rfl⟩))
                go_ret
                exact ⟨by rw [HD.out, HF.out]; rfl, Below.refl _ _⟩
          · obtain rfl : q = k := by omega
            have HK2 := Lib.hid (show ∀ i, i < q + 1 → ∀ j, j < i → AP i j = true from fun i hi j hj => by
              by_cases e : i = q
              · subst e; exact HQ.out j hj
              · exact HK.out i (by omega) j hj)
            go_wp2
            go_roundw
            case rel => exact ⟨q + 1, by omega, by go_num, HK2, by trivial⟩
            case measure => simp [intOf]; omega
      · obtain rfl : k = n := by omega
        have hy := HAY.out HK.out
        subst hy
        go_wp2
        go_loopw [8] (fun i wr => ∃ m : Nat, m ≤ N ∧ i = .int .i64 m ∧ Hid (∀ m', m' < m → FM m' = false) ∧ Below w.heap.size w wr) (fun i _ => N - (intOf i).toNat)
        case atStart => exact ⟨0, by omega, rfl, Lib.hid (fun i hi => by omega), Below.refl _ _⟩
        case round =>
          obtain ⟨wm, rfl⟩ : ∃ z, z = wr := ⟨wr, rfl⟩
          obtain ⟨m, hm, rfl, HM, hBm⟩ := hrel
          have HBm := Lib.hid hBm
          clear hBm
          have hwm : IntKind.i64.wrap ((m : Int) + 1) = (m : Int) + 1 := by rw [IntKind.wrap_i64]; omega
          by_cases hlm : m < N
          · go_wp2
            go_loopw [9, 10] (fun g i wr => ∃ a : Nat, a ≤ k ∧ i = .int .i64 a ∧ ((g = .bool true ∧ Hid (∀ i, i < a → ∀ j, j < i → OK m i j = true)) ∨ (g = .bool false ∧ Hid (FM m = false))) ∧ Below w.heap.size w wr) (fun _ i _ => k - (intOf i).toNat)
            case atStart => exact ⟨0, by omega, rfl, .inl ⟨rfl, Lib.hid (fun i hi => by omega)⟩, HBm.out⟩
            case round =>
              obtain ⟨wa, rfl⟩ : ∃ z, z = wr := ⟨wr, rfl⟩
              obtain ⟨a, ha, rfl, hga, hBa⟩ := hrel
              have HBa := Lib.hid hBa
              clear hBa
              rcases hga with ⟨rfl, HA0⟩ | ⟨rfl, HF0⟩
              · by_cases hla : a < k
                · obtain ⟨dk, hdk, h97, hw1, hw2⟩ := sign_of a (by omega)
                  have HDK := Lib.hid hdk
                  have hwa : IntKind.i64.wrap ((a : Int) + 1) = (a : Int) + 1 := by rw [IntKind.wrap_i64]; omega
                  have hpa : (m : Int) / 2 ^ a = ((m / 2 ^ a : Nat) : Int) := by simp
                  have hpl : m / 2 ^ a ≤ m := Nat.div_le_self _ _
                  obtain ⟨pa, hpae⟩ : ∃ p, m / 2 ^ a = p := ⟨_, rfl⟩
                  rw [hpae] at hpa hpl
                  have hba := and_oneN pa (by omega)
                  have HTA := Lib.hid (show m.testBit a = decide (pa % 2 = 1) by rw [testBit_mod, hpae])
                  obtain ⟨α, hα⟩ : ∃ x, pa % 2 = x := ⟨_, rfl⟩
                  rw [hα] at hba HTA
                  have hα2 : α < 2 := by omega
                  have ha64 : (a : Int) ≤ 64 := by omega
                  have ha0 : 0 ≤ (a : Int) := by omega
                  clear hdk hpae hα hpl
                  go_wp2
                  go_loopw [9, 11] (fun g i wr => ∃ q : Nat, q ≤ a ∧ i = .int .i64 q ∧ ((g = .bool true ∧ Hid (∀ j, j < q → OK m a j = true)) ∨ (g = .bool false ∧ Hid (FM m = false))) ∧ Below w.heap.size w wr) (fun _ i _ => a - (intOf i).toNat)
                  case atStart => exact ⟨0, by omega, rfl, .inl ⟨rfl, Lib.hid (fun j hj => by omega)⟩, HBa.out⟩
                  case round =>
                    obtain ⟨wq, rfl⟩ : ∃ z, z = wr := ⟨wr, rfl⟩
                    obtain ⟨q, hq, rfl, hgq, hBq⟩ := hrel
                    have HBq := Lib.hid hBq
                    clear hBq
                    by_cases hlq : q < a
                    · obtain ⟨dq, hdq, g97, gw1, gw2⟩ := sign_of q (by omega)
                      have HDQ := Lib.hid hdq
                      have hwq : IntKind.i64.wrap ((q : Int) + 1) = (q : Int) + 1 := by rw [IntKind.wrap_i64]; omega
                      have hpq : (m : Int) / 2 ^ q = ((m / 2 ^ q : Nat) : Int) := by simp
                      have hql : m / 2 ^ q ≤ m := Nat.div_le_self _ _
                      obtain ⟨pq, hpqe⟩ : ∃ p, m / 2 ^ q = p := ⟨_, rfl⟩
                      rw [hpqe] at hpq hql
                      have hbq := and_oneN pq (by omega)
                      have htq : m.testBit q = decide (pq % 2 = 1) := by rw [testBit_mod, hpqe]
                      obtain ⟨β, hβ⟩ : ∃ x, pq % 2 = x := ⟨_, rfl⟩
                      rw [hβ] at hbq htq
                      have hβ2 : β < 2 := by omega
                      have hq64 : (q : Int) ≤ 64 := by omega
                      have hq0 : 0 ≤ (q : Int) := by omega
                      have hne := mod_ne α β hα2 hβ2
                      obtain ⟨c, hc⟩ : ∃ c, (decide (α = 1) != decide (β = 1)) = c := ⟨_, rfl⟩
                      rw [hc] at hne
                      have hok := HOK.out m a q
                      rw [HTA.out, htq, hc] at hok
                      have HA := Lib.hid (fun W => HLA.out a q dk dq hla (by omega) HDK.out HDQ.out W)
                      have HBB := Lib.hid (fun W => HBO.out a q dk dq hla (by omega) HDK.out HDQ.out W)
                      obtain ⟨b1, b2⟩ := HBL.out a q
                      have hno := HFN.out m a q hla hlq
                      obtain ⟨s, hs⟩ : ∃ s, BN a q = s := ⟨_, rfl⟩
                      rw [hs] at HBB b1 b2
                      have htm : Int.tmod (s : Int) 2 = ((s % 2 : Nat) : Int) := by rw [Int.tmod_eq_emod_of_nonneg (by omega)]; omega
                      obtain ⟨r, hr⟩ : ∃ r, s % 2 = r := ⟨_, rfl⟩
                      rw [hr] at htm b2
                      have hr2 : r < 2 := by omega
                      have hwr : IntKind.i64.wrap (r : Int) = (r : Int) := by rw [IntKind.wrap_i64]; omega
                      have hreq : ((r : Int) == 0) = EV a q := by
                        rw [b2]
                        by_cases e : r = 0
                        · subst e; rfl
                        · rw [beq_eq_false_iff_ne.2 e, beq_eq_false_iff_ne.2 (by omega)]
                      obtain ⟨v, hv⟩ : ∃ v, EV a q = v := ⟨_, rfl⟩
                      rw [hv] at hreq hok
                      clear hdq hs hr hpqe hβ htq hc hv b1 b2 hql

                      cases h1 : LA a q with
                      | false =>
                        rw [h1] at HA hok
                        clear h1
                        rcases hgq with ⟨rfl, HG0⟩ | ⟨rfl, HF0⟩
                        · skip
                          have HQ2 := Lib.hid (show ∀ j, j < q + 1 → OK m a j = true from fun j hj => by
                            by_cases e : j = q
                            · rw [e]; exact hok
                            · exact HG0.out j (by omega))
                          clear hok hno
                          go_wp2
                          go_quiet ((first | (go_at_call 83; (with_reducible exact quietP (HA.out _))) | (go_at_call 84; (with_reducible exact quietP (HBB.out _)))))
                          go_wp2
                          go_roundw
                          case rel => exact ⟨q + 1, by omega, by go_num, .inl ⟨rfl, HQ2⟩, bdn HBq.out _⟩
                          case measure => simp [intOf]; omega
                        · skip
                          clear hok hno
                          go_wp2
                          go_quiet ((first | (go_at_call 83; (with_reducible exact quietP (HA.out _))) | (go_at_call 84; (with_reducible exact quietP (HBB.out _)))))
                          go_wp2
                          go_roundw
                          case rel => exact ⟨q + 1, by omega, by go_num, .inr ⟨rfl, HF0⟩, bdn HBq.out _⟩
                          case measure => simp [intOf]; omega
                      | true =>
                        rw [h1] at HA hok
                        clear h1
                        cases c with
                        | false =>
                          cases v with
                          | false =>
                            rcases hgq with ⟨rfl, HG0⟩ | ⟨rfl, HF0⟩
                            · skip
                              have HQ2 := Lib.hid (show ∀ j, j < q + 1 → OK m a j = true from fun j hj => by
                                by_cases e : j = q
                                · rw [e]; exact hok
                                · exact HG0.out j (by omega))
                              clear hok hno
                              go_wp2
                              go_quiet ((first | (go_at_call 83; (with_reducible exact quietP (HA.out _))) | (go_at_call 84; (with_reducible exact quietP (HBB.out _)))))
                              go_wp2
                              go_roundw
                              case rel => exact ⟨q + 1, by omega, by go_num, .inl ⟨rfl, HQ2⟩, bdn HBq.out _⟩
                              case measure => simp [intOf]; omega
                            · skip
                              clear hok hno
                              go_wp2
                              go_quiet ((first | (go_at_call 83; (with_reducible exact quietP (HA.out _))) | (go_at_call 84; (with_reducible exact quietP (HBB.out _)))))
                              go_wp2
                              go_roundw
                              case rel => exact ⟨q + 1, by omega, by go_num, .inr ⟨rfl, HF0⟩, bdn HBq.out _⟩
                              case measure => simp [intOf]; omega
                          | true =>
                            rcases hgq with ⟨rfl, HG0⟩ | ⟨rfl, HF0⟩
                            · skip
                              have HF1 := Lib.hid (hno hok)
                              clear hok hno
                              go_wp2
                              go_quiet ((first | (go_at_call 83; (with_reducible exact quietP (HA.out _))) | (go_at_call 84; (with_reducible exact quietP (HBB.out _)))))
                              go_wp2
                              go_roundw
                              case rel => exact ⟨q + 1, by omega, by go_num, .inr ⟨rfl, HF1⟩, bdn HBq.out _⟩
                              case measure => simp [intOf]; omega
                            · skip
                              have HF1 := Lib.hid (hno hok)
                              clear hok hno
                              go_wp2
                              go_quiet ((first | (go_at_call 83; (with_reducible exact quietP (HA.out _))) | (go_at_call 84; (with_reducible exact quietP (HBB.out _)))))
                              go_wp2
                              go_roundw
                              case rel => exact ⟨q + 1, by omega, by go_num, .inr ⟨rfl, HF1⟩, bdn HBq.out _⟩
                              case measure => simp [intOf]; omega
                        | true =>
                          cases v with
                          | false =>
                            rcases hgq with ⟨rfl, HG0⟩ | ⟨rfl, HF0⟩
                            · skip
                              have HF1 := Lib.hid (hno hok)
                              clear hok hno
                              go_wp2
                              go_quiet ((first | (go_at_call 83; (with_reducible exact quietP (HA.out _))) | (go_at_call 84; (with_reducible exact quietP (HBB.out _)))))
                              go_wp2
                              go_roundw
                              case rel => exact ⟨q + 1, by omega, by go_num, .inr ⟨rfl, HF1⟩, bdn HBq.out _⟩
                              case measure => simp [intOf]; omega
                            · skip
                              have HF1 := Lib.hid (hno hok)
                              clear hok hno
                              go_wp2
                              go_quiet ((first | (go_at_call 83; (with_reducible exact quietP (HA.out _))) | (go_at_call 84; (with_reducible exact quietP (HBB.out _)))))
                              go_wp2
                              go_roundw
                              case rel => exact ⟨q + 1, by omega, by go_num, .inr ⟨rfl, HF1⟩, bdn HBq.out _⟩
                              case measure => simp [intOf]; omega
                          | true =>
                            rcases hgq with ⟨rfl, HG0⟩ | ⟨rfl, HF0⟩
                            · skip
                              have HQ2 := Lib.hid (show ∀ j, j < q + 1 → OK m a j = true from fun j hj => by
                                by_cases e : j = q
                                · rw [e]; exact hok
                                · exact HG0.out j (by omega))
                              clear hok hno
                              go_wp2
                              go_quiet ((first | (go_at_call 83; (with_reducible exact quietP (HA.out _))) | (go_at_call 84; (with_reducible exact quietP (HBB.out _)))))
                              go_wp2
                              go_roundw
                              case rel => exact ⟨q + 1, by omega, by go_num, .inl ⟨rfl, HQ2⟩, bdn HBq.out _⟩
                              case measure => simp [intOf]; omega
                            · skip
                              clear hok hno
                              go_wp2
                              go_quiet ((first | (go_at_call 83; (with_reducible exact quietP (HA.out _))) | (go_at_call 84; (with_reducible exact quietP (HBB.out _)))))
                              go_wp2
                              go_roundw
                              case rel => exact ⟨q + 1, by omega, by go_num, .inr ⟨rfl, HF0⟩, bdn HBq.out _⟩
                              case measure => simp [intOf]; omega
                    · obtain rfl : q = a := by omega
                      rcases hgq with ⟨rfl, HG0⟩ | ⟨rfl, HF0⟩
                      · have HA2 := Lib.hid (show ∀ i, i < q + 1 → ∀ j, j < i → OK m i j = true from fun i hi j hj => by
                          by_cases e : i = q
                          · subst e; exact HG0.out j hj
                          · exact HA0.out i (by omega) j hj)
                        go_wp2
                        go_roundw
                        case rel => exact ⟨q + 1, by omega, by go_num, .inl ⟨rfl, HA2⟩, HBq.out⟩
                        case measure => simp [intOf]; omega
                      · go_wp2
                        go_roundw
                        case rel => exact ⟨q + 1, by omega, by go_num, .inr ⟨rfl, HF0⟩, HBq.out⟩
                        case measure => simp [intOf]; omega
                · obtain rfl : a = k := by omega
                  have hy := HHY.out m hlm (HFY.out m HA0.out)
                  subst hy
                  go_wp2
                  go_ret
                  exact ⟨by rw [HD.out]; rfl, HBa.out⟩
              · have HM2 := Lib.hid (show ∀ m', m' < m + 1 → FM m' = false from fun m' hm' => by
                  by_cases e : m' = m
                  · rw [e]; exact HF0.out
                  · exact HM.out m' (by omega))
                by_cases hla : (a : Int) < (k : Int)
                · go_wp2
                  go_roundw
                  case rel => exact ⟨m + 1, by omega, by go_num, HM2, HBa.out⟩
                  case measure => simp [intOf]; omega
                · go_wp2
                  go_roundw
                  case rel => exact ⟨m + 1, by omega, by go_num, HM2, HBa.out⟩
                  case measure => simp [intOf]; omega
          · obtain rfl : m = N := by omega
            have hy := HHN.out HM.out
            subst hy
            go_wp2
            go_ret
            exact ⟨by rw [HD.out]; rfl, HBm.out⟩

end Go.Proofs.Ytpcebcgmbngabab
