/- RegionOfArc: the model, the law. -/
import Derived.Test.YtmfbbbnenngehabRO
import Derived.Test.YtmfbbbnenngehabC3
namespace Go.Proofs.Ytmfbbbnenngehab
open Go.RowKit
set_option linter.unusedVariables false

theorem eqlR (x1 y1 x2 y2 : Int) (w : World) : (binOp .eql 47 (.agg #[.int .i64 x1, .int .i64 y1]) (.agg #[.int .i64 x2, .int .i64 y2])).run Try.prog w = .ok (.bool (x1 == x2 && y1 == y2)) w ∧ (binOp .neq 47 (.agg #[.int .i64 x1, .int .i64 y1]) (.agg #[.int .i64 x2, .int .i64 y2])).run Try.prog w = .ok (.bool (!(x1 == x2 && y1 == y2))) w := by
  have u3 := Try.underlying3
  have a3 := Try.isAgg3
  have z3 := Try.sizeOf3
  have hS : Try.prog.underlying 47 = some (.struct (Try.prog.fieldsOf 47)) := by kernel_rfl
  have hp : Try.prog.stoodInHeld 47 = false := by kernel_rfl
  have h : (Op.equalIn (9999 + 1) 47 (.agg #[.int .i64 x1, .int .i64 y1]) (.agg #[.int .i64 x2, .int .i64 y2])).run Try.prog w = .ok (x1 == x2 && y1 == y2) w := by
    rw [run_equalIn_struct w 9999 47 _ _ hS hp]
    simp only [Program.fieldsOf, Try.underlying47]
    go_simp
    by_cases h1 : x1 = x2 <;> by_cases h2 : y1 = y2 <;> simp [h1, h2]
  constructor
  · simp only [binOp]
    simp [Op.equal, Op.maxDepth, h]
  · simp only [binOp]
    simp [Op.equal, Op.maxDepth, h]

theorem both_arc (n i : Nat) (R : List Int) : bothR (arcC n i) R = (R.contains (i : Int) && R.contains (((i : Int) + 1) % (n : Int))) := by
  unfold bothR arcC
  simp only
  rcases Int.le_total (i : Int) (((i : Int) + 1) % (n : Int)) with h | h
  · rw [Int.min_eq_left h, Int.max_eq_right h]
  · rw [Int.min_eq_right h, Int.max_eq_left h, Bool.and_comm]

theorem arcR_at {xs : List (Int × Int)} {L : List (List Int)} {c : Int × Int} {z : Nat} (hz : arcR xs L c = z) (hlt : z < L.length) (k : Nat) (hk : k ≤ z) : (bothR c (L.getD k []) && (!decide (c ∈ xs) || (L.getD k []).length == 2)) = decide (k = z) := by
  by_cases e : k = z
  · subst e
    rw [decide_eq_true rfl]
    subst hz
    have := List.findIdx_getElem (w := hlt)
    rw [List.getD_eq_getElem?_getD, List.getElem?_eq_getElem hlt]
    exact this
  · rw [decide_eq_false e]
    subst hz
    have := List.not_of_lt_findIdx (show k < arcR xs L c by omega)
    rw [List.getD_eq_getElem?_getD, List.getElem?_eq_getElem (by omega)]
    simpa using this

theorem any_snoc {α : Type} (f : α → Bool) (xs : List α) (z : α) (k : Nat) (h : k < xs.length) : (xs.take (k + 1)).any f = ((xs.take k).any f || f (xs.getD k z)) := by
  rw [List.take_succ_eq_append_getElem h, List.any_append, List.getD_eq_getElem?_getD, List.getElem?_eq_getElem h]
  simp

theorem any_mem (xs : List (Int × Int)) (c : Int × Int) : xs.any (fun d => d.1 == c.1 && d.2 == c.2) = decide (c ∈ xs) := by
  rw [Bool.eq_iff_iff, List.any_eq_true, decide_eq_true_eq]
  constructor
  · rintro ⟨d, hd, h⟩
    rw [Bool.and_eq_true, beq_iff_eq, beq_iff_eq] at h
    rw [show c = d from Prod.ext h.1.symm h.2.symm]
    exact hd
  · intro h
    exact ⟨c, h, by simp⟩

set_option maxHeartbeats 4000000 in
set_option maxRecDepth 100000 in
theorem reArc_any (n i : Nat) (hi : i < n) (hn : 3 ≤ n ∧ n ≤ 60) (u ur : Value) (xs : List (Int × Int)) (vs : List Value) (L : List (List Int)) (B T B2 T2 : Nat) (w : World) (h : PairsIn 47 w B T u xs) (hT : T ≤ w.heap.size) (hR : RowsAt 34 3 w B2 T2 ur vs L) (hT2 : T2 ≤ w.heap.size)
    (h60 : ∀ k, k < L.length → 0 < (L.getD k []).length ∧ (L.getD k []).length ≤ 60) (hL : L.length ≤ 1000) (hxl : xs.length ≤ 40) (z : Nat) (hz : arcR xs L (arcC n i) = z) (hlt : z < L.length) :
    Calls Try.prog 42 #[.int .i64 (n : Int), u, ur, .int .i64 (i : Int)] w fun e w' => e = .returned (.int .i64 (z : Int)) ∧ Below w.heap.size w w' := by
  obtain ⟨a1, c1, g1, rfl, ha1, _, hx1, hy1⟩ := h.pairs.view
  obtain ⟨ar, cr, gr, rfl, har, _, hcr, _⟩ := hR.view
  obtain rfl := har (by omega)
  have X := Lib.hid hx1
  have Y := Lib.hid hy1
  have HA := Lib.hid ha1
  have HR := Lib.hid hR
  have HCR := Lib.hid hcr
  have H60 := Lib.hid h60
  have HAT := Lib.hid (arcR_at hz hlt)
  have hi0 : (0 : Int) ≤ (i : Int) := by omega
  have hi1 : (i : Int) ≤ 59 := by omega
  have n3 : 3 ≤ (n : Int) := by omega
  have n7 : ¬ n = 0 := by omega
  have n8 : ¬ (n : Int) = 0 := by omega
  have n6 : (n : Int) ≤ 60 := by omega
  have hi2 : (0 : Int) ≤ (i : Int) + 1 := by omega
  have hw : IntKind.i64.wrap ((i : Int) + 1) = (i : Int) + 1 := by rw [IntKind.wrap_i64]; omega
  have hr0 : 0 ≤ ((i : Int) + 1) % (n : Int) := Int.emod_nonneg _ (by omega)
  have hr1 : ((i : Int) + 1) % (n : Int) < (n : Int) := Int.emod_lt_of_pos _ (by omega)
  have htm : Int.tmod ((i : Int) + 1) (n : Int) = ((i : Int) + 1) % (n : Int) := Int.tmod_eq_emod_of_nonneg hi2
  have hw2 : IntKind.i64.wrap (((i : Int) + 1) % (n : Int)) = ((i : Int) + 1) % (n : Int) := by rw [IntKind.wrap_i64]; omega
  clear h hx1 hy1 ha1 har hcr hR h60 hz
  go_enter Try.func42, Try.ntmps42
  go_wp2
  obtain ⟨nx, hnx⟩ : ∃ nx, ((i : Int) + 1) % (n : Int) = nx := ⟨_, rfl⟩
  rw [hnx] at hr0 hr1 ⊢
  have HNX := Lib.hid hnx
  clear hw2 htm hw hnx
  go_loopw [21] (fun i_ wr => ∃ k : Nat, k ≤ z ∧ i_ = .int .i64 (k : Int) ∧ Below w.heap.size w wr) (fun i_ _ => L.length - (intOf i_).toNat)
  case atStart => exact ⟨0, by omega, rfl, Below.refl _ _⟩
  case round =>
    obtain ⟨k, hk, rfl, hB⟩ := hrel
    obtain ⟨wo, rfl⟩ : ∃ q, q = wr := ⟨wr, rfl⟩
    have hzo := hB.size
    have hkl : k < L.length := by omega
    have e0 := cellB hB (HCR.out k hkl)
    have hrow := HR.out.rows k hkl
    obtain ⟨_, hp60⟩ := H60.out k hkl
    have hat := HAT.out k hk
    obtain ⟨pts, hpts⟩ : ∃ pts, L.getD k [] = pts := ⟨_, rfl⟩
    rw [hpts] at hrow hp60 hat
    obtain ⟨a2, c2, hform⟩ := hrow.1.openedR
    rw [hform] at e0 hrow
    have HROW := Lib.hid (hrow.keep (belowSame hB hT2)).1
    rw [both_arc, HNX.out] at hat
    obtain ⟨tx, htx⟩ : ∃ t, pts.contains (i : Int) = t := ⟨_, rfl⟩
    obtain ⟨ty, hty⟩ : ∃ t, pts.contains nx = t := ⟨_, rfl⟩
    rw [htx, hty] at hat
    have HTX := Lib.hid htx
    have HTY := Lib.hid hty
    have hk0 : (0 : Int) ≤ (k : Int) := by omega
    have hk1 : (k : Int) < (L.length : Int) := by omega
    clear hrow hpts hform htx hty
    cases tx with
    | false =>
      have hne : ¬ k = z := by simpa using hat
      clear hat
      go_wp2_with (go_at_call 52; (first | (with_reducible refine (has_any _ pts (i : Int) _ _ _ _ HROW.out (by omega) HTX.out).mono ?_) | (with_reducible refine (has_any _ pts nx _ _ _ _ HROW.out (by omega) HTY.out).mono ?_)); rintro e w1 ⟨rfl, rfl⟩)
      go_roundw
      case rel => exact ⟨k + 1, by omega, by go_num, hB⟩
      case measure => simp [intOf]; omega
    | true =>
      cases ty with
      | false =>
        have hne : ¬ k = z := by simpa using hat
        clear hat
        go_wp2_with (go_at_call 52; (first | (with_reducible refine (has_any _ pts (i : Int) _ _ _ _ HROW.out (by omega) HTX.out).mono ?_) | (with_reducible refine (has_any _ pts nx _ _ _ _ HROW.out (by omega) HTY.out).mono ?_)); rintro e w1 ⟨rfl, rfl⟩)
        go_roundw
        case rel => exact ⟨k + 1, by omega, by go_num, hB⟩
        case measure => simp [intOf]; omega
      | true =>
        have HAT2 := Lib.hid hat
        clear hat
        go_wp2_with (go_at_call 52; (first | (with_reducible refine (has_any _ pts (i : Int) _ _ _ _ HROW.out (by omega) HTX.out).mono ?_) | (with_reducible refine (has_any _ pts nx _ _ _ _ HROW.out (by omega) HTY.out).mono ?_)); rintro e w1 ⟨rfl, rfl⟩)
        go_loopw [12, 38] (fun t_ j_ wr => ∃ m : Nat, m ≤ xs.length ∧ j_ = .int .i64 (m : Int) ∧ t_ = .bool ((xs.take m).any (fun d => d.1 == (arcC n i).1 && d.2 == (arcC n i).2)) ∧ Below wo.heap.size wo wr) (fun _ j_ _ => xs.length - (intOf j_).toNat)
        case atStart => exact ⟨0, by omega, rfl, by simp, Below.refl _ _⟩
        case round =>
          obtain ⟨m, hm, rfl, rfl, hB2⟩ := hrel
          have hz2 := hB2.size
          by_cases hmx : m < xs.length
          · obtain rfl := HA.out (by omega)
            obtain ⟨x, y, hxy⟩ : ∃ x y, xs.getD m (0, 0) = (x, y) := ⟨_, _, rfl⟩
            have cx := cellB hB2 (cellB hB (X.out m hmx))
            have cy := cellB hB2 (cellB hB (Y.out m hmx))
            have hst := any_snoc (fun d => d.1 == (arcC n i).1 && d.2 == (arcC n i).2) xs (0, 0) m hmx
            rw [hxy] at cx cy hst
            simp only at cx cy
            obtain ⟨s0, hs0⟩ : ∃ s, (xs.take m).any (fun d => d.1 == (arcC n i).1 && d.2 == (arcC n i).2) = s := ⟨_, rfl⟩
            obtain ⟨s1, hs1⟩ : ∃ s, (x == (arcC n i).1 && y == (arcC n i).2) = s := ⟨_, rfl⟩
            have hst2 : (xs.take (m + 1)).any (fun d => d.1 == (arcC n i).1 && d.2 == (arcC n i).2) = (s0 || s1) := by rw [hst, hs0]; simp only; rw [hs1]
            rw [hs0]
            have HST := Lib.hid hst2
            have b0 : (wr.alloc (.cells #[.int .i64 x, .int .i64 y] 47)).cell? ⟨wr.heap.size, 0, none⟩ = some (.int .i64 x) := by go_simp
            have b1 : (wr.alloc (.cells #[.int .i64 x, .int .i64 y] 47)).cell? ⟨wr.heap.size, 1, none⟩ = some (.int .i64 y) := by go_simp
            have heq : ∀ W, (binOp .eql 47 (.agg #[.int .i64 x, .int .i64 y]) (.agg #[.int .i64 (min (i : Int) nx), .int .i64 (max (i : Int) nx)])).run Try.prog W = .ok (.bool s1) W := fun W => by
              rw [(eqlR _ _ _ _ W).1, ← hs1]
              unfold arcC
              rw [HNX.out]
            clear hxy hst hst2 hs0 hs1
            cases s0 with
            | true =>
              clear heq
              go_wp2
              go_quiet (fail)
              go_wp2
              go_roundw
              case rel => exact ⟨m + 1, by omega, by go_num, by rw [HST.out]; rfl, bdn (hB2.alloc hz2 _) _⟩
              case measure => simp [intOf]; omega
            | false =>
              go_wp2
              go_region_held3 (fun w' => w'.cell? ⟨wr.heap.size, 0, none⟩ = some (.int .i64 x) ∧ w'.cell? ⟨wr.heap.size, 1, none⟩ = some (.int .i64 y)) (go_keep)
                (first | (go_at_call 69; (with_reducible refine (srChord_any _ _ _).mono ?_); rintro e w1 ⟨rfl, hb⟩; have x0 := cellB hb b0; have x1 := cellB hb b1; (have hw1 : Below wr.heap.size wr w1 := Below.trans (by go_grown) (hb.mono (by simp)))))
              go_wp2
              go_roundw
              case rel => exact ⟨m + 1, by omega, by go_num, by rw [HST.out]; rfl, by first | exact hB2.trans (hw1.mono hz2) | exact bdn (hB2.trans (hw1.mono hz2)) _⟩
              case measure => simp [intOf]; omega
          · obtain rfl : m = xs.length := by omega
            rw [List.take_length, any_mem]
            have hat := HAT2.out
            have hB3 := hB.trans (hB2.mono hzo)
            obtain ⟨s, hs⟩ : ∃ s, decide (arcC n i ∈ xs) = s := ⟨_, rfl⟩
            rw [hs] at hat ⊢
            clear hs
            cases s with
            | false =>
              obtain rfl : k = z := by simpa using hat
              clear hat
              go_wp2
              go_ret
              exact ⟨rfl, hB3⟩
            | true =>
              by_cases hl : pts.length = 2
              · obtain rfl : k = z := by simpa [hl] using hat
                clear hat
                go_wp2
                go_ret
                exact ⟨rfl, hB3⟩
              · have hne : ¬ k = z := by
                  intro e
                  rw [decide_eq_true e] at hat
                  simp at hat
                  exact hl hat
                have hq2 : ((pts.length : Int) == 2) = false := beq_eq_false_iff_ne.2 (by omega)
                clear hat
                go_wp2
                go_roundw
                case rel => exact ⟨k + 1, by omega, by go_num, hB3⟩
                case measure => simp [intOf]; omega
end Go.Proofs.Ytmfbbbnenngehab
