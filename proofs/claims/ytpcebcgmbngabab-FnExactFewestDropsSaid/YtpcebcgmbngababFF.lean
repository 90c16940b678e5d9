/- Fewest chords to drop: the program. -/
import Derived.Test.YtpcebcgmbngababFE
import Derived.Test.YtpcebcgmbngababK7
import Derived.WalkMore
namespace Go.Proofs.Ytpcebcgmbngabab
open Go.RowKit
set_option linter.unusedVariables false

set_option maxHeartbeats 4000000 in
set_option maxRecDepth 10000 in
theorem iFewest_yes (p : Int) (u : Value) (xs : List (Int × Int)) (B T : Nat) (w : World) (h : PairsIn 96 w B T u xs) (hT : T ≤ w.heap.size) (hg : goodC p xs) (h12 : xs.length ≤ 12) (s m : Nat) (hs : s ≤ xs.length) (hm : firstD (takesM (freeP xs) xs.length 0 s []) (2 ^ xs.length) = some m) (hno : ∀ t, t < s → firstD (takesM (freeP xs) xs.length 0 t []) (2 ^ xs.length) = none) :
    Calls Try.prog 44 #[.int .i64 p, u] w (Gives (IntsIn 3) w (heldL m xs.length xs.length) true) := by
  have HU := Lib.hid h
  have HG := Lib.hid hg
  have hTk : ∀ j k, k < 2 ^ xs.length → takesM (freeP xs) xs.length 0 j [] k = (decide ((bitsL 12 k).count true = j) && freeP xs (idxM xs.length 0 k)) := fun j k hk => by
    unfold takesM
    rw [count_12 k xs.length hk h12, List.nil_append]
  have HM := Lib.hid (firstD_some hm)
  have HF := Lib.hid (fun t ht => firstD_none (hno t ht))
  have HTK := Lib.hid hTk
  have hN : 2 ^ xs.length ≤ 2 ^ 12 := Nat.pow_le_pow_right (by omega) h12
  have hN1 : 0 < 2 ^ xs.length := Nat.two_pow_pos _
  have hsh : IntKind.i64.wrap (2 ^ xs.length) = ((2 ^ xs.length : Nat) : Int) := by rw [IntKind.wrap_i64, show ((2 : Int) ^ xs.length) = ((2 ^ xs.length : Nat) : Int) by norm_cast]; omega
  obtain ⟨a1, c1, g1, rfl, _⟩ := h.pairs.view
  obtain ⟨N, hNN⟩ : ∃ N, 2 ^ xs.length = N := ⟨_, rfl⟩
  rw [hNN] at HM HF HTK hN hN1 hsh
  have hgt : ¬ (12 : Int) < (xs.length : Int) := by omega
  have hsh2 : IntKind.i64.wrap ((N : Int) - 1) = (N : Int) - 1 := by rw [IntKind.wrap_i64]; omega
  have hwn : IntKind.i64.wrap ((xs.length : Int) + 1) = ((xs.length + 1 : Nat) : Int) := by rw [IntKind.wrap_i64]; omega
  clear h hg hm hno hTk
  go_enter Try.func44, Try.ntmps44
  go_wp2
  refine wp_scope_straight ?_
  go_wp2_with (first
    | (go_at_call 73; (with_reducible refine (iCrossingPairs_yes p _ xs B T _ HU.out hT HG.out).mono ?_); rintro e w1 ⟨v, rfl, hr, hb1⟩; have HR := Lib.hid hr; have hz1 := hb1.size; clear hr))
  go_step3
  go_wp2
  go_loopw [32] (fun s_ wr => ∃ j : Nat, j ≤ s ∧ s_ = .int .i64 j ∧ Below w1.heap.size w1 wr) (fun s_ _ => s - (intOf s_).toNat)
  case atStart => exact ⟨0, by omega, rfl, Below.refl _ _⟩
  case round =>
    obtain ⟨j, hj, rfl, hB⟩ := hrel
    have hlt : (j : Int) < ((xs.length + 1 : Nat) : Int) := by omega
    have hlt2 : (j : Int) < (xs.length : Int) + 1 := by omega
    go_wp2
    go_loopw [9] (fun d wr => ∃ t : Nat, t ≤ N ∧ d = .int .i64 ((t : Int) - 1) ∧ Hid (∀ k, t ≤ k → k < N → takesM (freeP xs) xs.length 0 j [] k = false) ∧ Below w1.heap.size w1 wr) (fun d _ => (intOf d + 1).toNat)
    case atStart => exact ⟨N, by omega, rfl, Lib.hid fun k h1 h2 => by omega, hB⟩
    case round =>
      obtain ⟨t, ht, rfl, HT, hB2⟩ := hrel
      rcases t with _ | k
      · have hne : j < s := by
          rcases Nat.lt_or_ge j s with h | h
          · exact h
          · exfalso
            obtain rfl : j = s := by omega
            have h1 := HT.out m (by omega) HM.out.1
            rw [HM.out.2.1] at h1
            cases h1
        have hd : decide (((0 : Nat) : Int) - 1 ≥ 0) = false := by decide
        go_wp2
        go_roundw
        case rel => exact ⟨j + 1, by omega, by go_num, hB2⟩
        case measure => (simp [intOf]; try omega)
      · have hd : ((k + 1 : Nat) : Int) - 1 = (k : Int) := by omega
        rw [hd]
        clear hd
        have hkN : k < N := by omega
        have hu : IntKind.u64.wrap (k : Int) = (k : Int) := by rw [IntKind.wrap_u64]; omega
        have hk0 : 0 ≤ (k : Int) := by omega
        have hwk : IntKind.i64.wrap ((k : Int) - 1) = (k : Int) - 1 := by rw [IntKind.wrap_i64]; omega
        have hz2 := hB2.size
        obtain ⟨vs, hv⟩ := HR.out
        have HV := Lib.hid (hv.keep (belowSame hB2 (Nat.le_refl _)))
        have hT1 := HTK.out j k hkN
        obtain ⟨c, hc⟩ : ∃ c, (bitsL 12 k).count true = c := ⟨_, rfl⟩
        obtain ⟨b, hb⟩ : ∃ b, freeP xs (idxM xs.length 0 k) = b := ⟨_, rfl⟩
        rw [hc, hb] at hT1
        have HC := Lib.hid hc
        have HB := Lib.hid hb
        clear hv hc hb
        have arm1 := Lib.hid (fun W => ones_any k W (by omega))
        by_cases hcj : c = j
        · have hbq : ((c : Int) == (j : Int)) = true := beq_iff_eq.2 (by omega)
          have HOA := Lib.hid (fun W h => holdsOne_any xs k w.heap.size w1.heap.size v vs W (by omega) h12 h)
          cases b with
          | false =>
            rw [Bool.and_false] at hT1
            have HT2 : Hid (∀ q, k ≤ q → q < N → takesM (freeP xs) xs.length 0 j [] q = false) := Lib.hid fun q h1 h2 => by
              rcases Nat.lt_or_ge k q with h | h
              · exact HT.out q h h2
              · obtain rfl : q = k := by omega
                exact hT1
            clear hT1
            go_wp2_with (first
              | (go_at_call 74; (with_reducible refine (arm1.out _).mono ?_); rintro e w2 ⟨rfl, rfl⟩; rw [HC.out])
              | (go_at_call 75; (with_reducible refine (HOA.out _ HV.out).mono ?_); rintro e w3 ⟨rfl, hb3⟩; rw [HB.out]; have hB3 := hB2.trans (hb3.mono hz2)))
            go_roundw
            case rel => exact ⟨k, by omega, rfl, HT2, hB3⟩
            case measure => (simp [intOf]; try omega)
          | true =>
            have hdj : decide (c = j) = true := decide_eq_true hcj
            rw [hdj, Bool.and_true] at hT1
            have hjs : j = s := by
              rcases Nat.lt_or_ge j s with h | h
              · have := HF.out j h k hkN
                rw [this] at hT1
                cases hT1
              · omega
            have hkm : k = m := by
              rcases Nat.lt_trichotomy k m with h | h | h
              · have h1 := HT.out m (by omega) HM.out.1
                rw [hjs, HM.out.2.1] at h1
                cases h1
              · exact h
              · have h1 := HM.out.2.2 k h hkN
                rw [hjs, h1] at hT1
                cases hT1
            subst hkm
            clear hT1 hdj
            go_wp2_with (first
              | (go_at_call 74; (with_reducible refine (arm1.out _).mono ?_); rintro e w2 ⟨rfl, rfl⟩; rw [HC.out])
              | (go_at_call 75; (with_reducible refine (HOA.out _ HV.out).mono ?_); rintro e w3 ⟨rfl, hb3⟩; rw [HB.out]; have hB3 := hB2.trans (hb3.mono hz2); have hz3 := hB3.size)
              | (go_at_call 76; (with_reducible refine (indicesDropped_any k xs.length _ (by omega) h12).mono ?_); rintro e w4 ⟨v4, rfl, hI4, hb4⟩))
            try rw [Exit.noGoto_ret]
            go_ret2
            exact ⟨_, rfl, ⟨hI4.mono (by omega), fun q hq => (hI4.own q hq).2⟩, hb1.trans ((hB3.trans (hb4.mono hz3)).mono hz1)⟩
        · have hbq : ((c : Int) == (j : Int)) = false := beq_eq_false_iff_ne.2 (by omega)
          rw [decide_eq_false hcj, Bool.false_and] at hT1
          have HT2 : Hid (∀ q, k ≤ q → q < N → takesM (freeP xs) xs.length 0 j [] q = false) := Lib.hid fun q h1 h2 => by
            rcases Nat.lt_or_ge k q with h | h
            · exact HT.out q h h2
            · obtain rfl : q = k := by omega
              exact hT1
          clear hT1
          go_wp2_with (first
            | (go_at_call 74; (with_reducible refine (arm1.out _).mono ?_); rintro e w2 ⟨rfl, rfl⟩; rw [HC.out]))
          go_roundw
          case rel => exact ⟨k, by omega, rfl, HT2, hB2⟩
          case measure => (simp [intOf]; try omega)

theorem iFewest_no (p : Int) (u : Value) (xs : List (Int × Int)) (B T : Nat) (w : World) (h : PairsIn 96 w B T u xs) (hT : T ≤ w.heap.size) (hg : ¬ (goodC p xs ∧ xs.length ≤ 12)) :
    Calls Try.prog 44 #[.int .i64 p, u] w (Gives (IntsIn 3) w [] false) := by
  have HU := Lib.hid h
  obtain ⟨a1, c1, g1, rfl, _⟩ := h.pairs.view
  by_cases h1 : goodC p xs
  · have HG := Lib.hid h1
    have h12 : ¬ xs.length ≤ 12 := fun e => hg ⟨h1, e⟩
    have hgt : (12 : Int) < (xs.length : Int) := by omega
    clear h hg h1
    go_enter Try.func44, Try.ntmps44
    go_wp2
    refine wp_scope_straight ?_
    go_wp2_with (first
      | (go_at_call 73; (with_reducible refine (iCrossingPairs_yes p _ xs B T _ HU.out hT HG.out).mono ?_); rintro e w1 ⟨v, rfl, hr, hb1⟩))
    try rw [Exit.noGoto_ret]
    go_ret2
    exact ⟨_, rfl, IntsIn.nil _ _ _ _, hb1⟩
  · have HG := Lib.hid h1
    clear h hg h1
    go_enter Try.func44, Try.ntmps44
    go_wp2
    refine wp_scope_straight ?_
    go_wp2_with (first
      | (go_at_call 73; (with_reducible refine (iCrossingPairs_no p _ xs B T _ HU.out hT HG.out).mono ?_); rintro e w1 ⟨v, rfl, hr, hb1⟩))
    try rw [Exit.noGoto_ret]
    go_ret2
    exact ⟨_, rfl, IntsIn.nil _ _ _ _, hb1⟩

end Go.Proofs.Ytpcebcgmbngabab
