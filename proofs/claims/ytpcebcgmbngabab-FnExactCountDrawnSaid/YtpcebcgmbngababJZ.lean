/- Loops that can be drawn: the program. -/
import Derived.Test.YtpcebcgmbngababJD
import Derived.WalkMore
import Derived.ScopeJumps
namespace Go.Proofs.Ytpcebcgmbngabab
open Go.RowKit
set_option linter.unusedVariables false

def apartB (ps : List (Nat × Nat)) (x y : Nat) : Bool := lacedP ps x y || evP ps x y

/-- Have each two letters that are not interlaced an even number of letters interlaced with both? -/
def apartP (ps : List (Nat × Nat)) : Bool := (List.range ps.length).all fun i => (List.range i).all fun j => apartB ps i j

theorem apartP_no {ps : List (Nat × Nat)} {i j : Nat} (hi : i < ps.length) (hj : j < i) (h : apartB ps i j = false) : apartP ps = false := by
  rw [Bool.eq_false_iff]
  intro e
  simp only [apartP, List.all_eq_true, List.mem_range] at e
  have := e i hi j hj
  rw [h] at this
  cases this

theorem apartP_yes {ps : List (Nat × Nat)} (h : ∀ i, i < ps.length → ∀ j, j < i → apartB ps i j = true) : apartP ps = true := by
  simp only [apartP, List.all_eq_true, List.mem_range]
  exact h

set_option maxHeartbeats 2000000 in
set_option maxRecDepth 100000 in
theorem areEvenApart_any (a0 : Option Addr) (n cap : Nat) (ps : List (Nat × Nat)) (B T : Nat) (w : World) (h : PairsIn 96 w B T (.slice a0 n cap) (pI ps)) (hT : T ≤ w.heap.size) (h8 : ps.length ≤ 8) :
    Calls Try.prog 110 #[.slice a0 n cap] w fun e w' => e = .returned (.bool (apartP ps)) ∧ Below w.heap.size w w' := by
  obtain rfl := letters_len h
  have HL := Lib.hid h
  have HNO := Lib.hid (fun i j (hi : i < ps.length) hj h => apartP_no (ps := ps) (i := i) (j := j) hi hj h)
  have HYES := Lib.hid (fun h => apartP_yes (ps := ps) h)
  have HAL := Lib.hid (fun x y W (hx : x < ps.length) (hy : y < ps.length) (hb : Below w.heap.size w W) => areInterlaced_any a0 ps.length cap ps B T x y W (h.keep (belowSame hb hT)) hx hy)
  have HEV := Lib.hid (fun x y W (hx : x < ps.length) (hy : y < ps.length) (hb : Below w.heap.size w W) => isEvenWithBoth_any a0 ps.length cap ps B T x y W (h.keep (belowSame hb hT)) (Nat.le_trans hT hb.size) hx hy h8)
  have HAP := Lib.hid (fun x y => show apartB ps x y = (lacedP ps x y || evP ps x y) from rfl)
  obtain ⟨n, hn⟩ : ∃ n, ps.length = n := ⟨_, rfl⟩
  rw [hn] at HNO HYES HAL HEV h8 ⊢
  obtain ⟨R, hR⟩ : ∃ R, apartP ps = R := ⟨_, rfl⟩
  rw [hR] at HNO HYES ⊢
  clear h hn HL hR
  go_enter Try.func110, Try.ntmps110
  go_wp2
  go_loopw [7] (fun i wr => ∃ k : Nat, k ≤ n ∧ i = .int .i64 k ∧ Hid (∀ i, i < k → ∀ j, j < i → apartB ps i j = true) ∧ Below w.heap.size w wr) (fun i _ => n - (intOf i).toNat)
  case atStart => exact ⟨0, by omega, rfl, Lib.hid (fun i hi => by omega), Below.refl _ _⟩
  case round =>
    obtain ⟨wo, rfl⟩ : ∃ z, z = wr := ⟨wr, rfl⟩
    obtain ⟨k, hk, rfl, HK, hB⟩ := hrel
    have HB := Lib.hid hB
    clear hB
    by_cases hlt : k < n
    · go_wp2
      go_loopw [11] (fun i wr => ∃ q : Nat, q ≤ k ∧ i = .int .i64 q ∧ Hid (∀ j, j < q → apartB ps k j = true) ∧ Below w.heap.size w wr) (fun i _ => k - (intOf i).toNat)
      case atStart => exact ⟨0, by omega, rfl, Lib.hid (fun j hj => by omega), HB.out⟩
      case round =>
        obtain ⟨q, hq, rfl, HQ, hB2⟩ := hrel
        have HB2 := Lib.hid hB2
        have hz2 := hB2.size
        clear hB2
        by_cases hlq : q < k
        · have hap := HAP.out k q
          have hno := HNO.out k q hlt hlq
          have HA := Lib.hid (fun W hb => HAL.out k q W hlt (by omega) hb)
          have HE := Lib.hid (fun W hb => HEV.out k q W hlt (by omega) hb)
          cases h1 : lacedP ps k q with
          | true =>
            rw [h1] at HA hap
            have HQ2 := Lib.hid (show ∀ j, j < q + 1 → apartB ps k j = true from fun j hj => by
              by_cases e : j = q
              · rw [e]; exact hap
              · exact HQ.out j (by omega))
            clear h1 hap hno
            go_wp2_with (first | (go_at_call 123; (refine (HA.out _ HB2.out).mono ?_); rintro e w1 ⟨rfl, hb1⟩; (have HB3 := Lib.hid (HB2.out.trans (hb1.mono hz2)))))
            go_roundw
            case rel => exact ⟨q + 1, by omega, by go_num, HQ2, HB3.out⟩
            case measure => simp [intOf]; omega
          | false =>
            rw [h1] at HA hap
            cases h2 : evP ps k q with
            | true =>
              rw [h2] at HE hap
              have HQ2 := Lib.hid (show ∀ j, j < q + 1 → apartB ps k j = true from fun j hj => by
                by_cases e : j = q
                · rw [e]; exact hap
                · exact HQ.out j (by omega))
              clear h1 h2 hap hno
              go_wp2_with (first | (go_at_call 123; (refine (HA.out _ HB2.out).mono ?_); rintro e w1 ⟨rfl, hb1⟩; (have HB3 := Lib.hid (HB2.out.trans (hb1.mono hz2)))) | (go_at_call 124; (refine (HE.out _ HB3.out).mono ?_); rintro e w4 ⟨rfl, hb4⟩; (have HB4 := Lib.hid (HB3.out.trans (hb4.mono HB3.out.size)))))
              go_roundw
              case rel => exact ⟨q + 1, by omega, by go_num, HQ2, HB4.out⟩
              case measure => simp [intOf]; omega
            | false =>
              rw [h2] at HE hap
              have HF := Lib.hid (hno hap)
              clear h1 h2 hap hno
              go_wp2_with (first | (go_at_call 123; (refine (HA.out _ HB2.out).mono ?_); rintro e w1 ⟨rfl, hb1⟩; (have HB3 := Lib.hid (HB2.out.trans (hb1.mono hz2)))) | (go_at_call 124; (refine (HE.out _ HB3.out).mono ?_); rintro e w4 ⟨rfl, hb4⟩; (have HB4 := Lib.hid (HB3.out.trans (hb4.mono HB3.out.size)))))
              go_ret
              exact ⟨by rw [HF.out]; rfl, HB4.out⟩
        · obtain rfl : q = k := by omega
          have HK2 := Lib.hid (show ∀ i, i < q + 1 → ∀ j, j < i → apartB ps i j = true from fun i hi j hj => by
            by_cases e : i = q
            · subst e; exact HQ.out j hj
            · exact HK.out i (by omega) j hj)
          go_wp2
          go_roundw
          case rel => exact ⟨q + 1, by omega, by go_num, HK2, HB2.out⟩
          case measure => simp [intOf]; omega
    · obtain rfl : k = n := by omega
      have HF := Lib.hid (HYES.out HK.out)
      go_wp2
      go_ret
      exact ⟨by rw [HF.out]; rfl, HB.out⟩

section
variable {P : Program} {a : Act} {w : World} {Q : Exit → Act → World → Prop}

theorem jump_mono {l : Nat} {J J' : Act → World → Prop} (h : ∀ a w, J a w → J' a w) : ∀ e a w, Exit.jump l J Q e a w → Exit.jump l J' Q e a w := by
  intro e a w
  cases e <;> simp only [Exit.jump]
  case goto l' => rintro ⟨h1, h2⟩; exact ⟨h1, h a w h2⟩
  all_goals exact id

/-- A scope that begins with a region and the label to which it jumps back. -/
theorem wp_scope_label1 {r0 X : Code} (l : Nat) (J : Act → World → Prop) (μ : Act → World → Nat) (hf : findLabel (r0.seq ((Code.label l).seq X)) l = some (Code.skip.seq X))
    (first : r0.wp P (Exit.then (fun a w => J a w) (Exit.jump l J Q)) a w)
    (pass : ∀ a w, J a w → X.wp P (Exit.jump l (fun a' w' => J a' w' ∧ μ a' w' < μ a w) Q) a w) : (Code.scope (r0.seq ((Code.label l).seq X))).wp P Q a w := by
  refine wp_scope_jumps l J μ hf ?_ ?_
  · refine wp_seq (wp_mono first ?_)
    intro e a w
    cases e <;> simp only [Exit.then]
    case normal =>
      intro hJ
      exact wp_seq (wp_label (wp_mono (pass a w hJ) (jump_mono fun _ _ h => h.1)))
    all_goals exact id
  · intro a w hJ
    exact wp_seq (wp_skip (pass a w hJ))
end

end Go.Proofs.Ytpcebcgmbngabab
