/- How many of the loops listed can be drawn: both sides, and the law of CountDrawn. -/
import Derived.Test.YtpcebcgmbngababL1
import Derived.Test.YtpcebcgmbngababL2
namespace Go.Proofs.Ytpcebcgmbngabab
open Go.RowKit
set_option linter.unusedVariables false

/-- Each loop listed is one: by the kernel, at all 125. -/
theorem ranked_loops : ∀ n : Fin 5, ∀ r : Fin 105, r.1 < waysN 0 n.1 → (loopL (rankedL n.1 r.1)).isSome = true := by decide +kernel

theorem ranked_loop (n r : Nat) (h4 : n ≤ 4) (hr : r < waysN 0 n) : ∃ ps, loopL (rankedL n r) = some ps := by
  have := ways4 n h4
  exact Option.isSome_iff_exists.1 (ranked_loops ⟨n, by omega⟩ ⟨r, by omega⟩ hr)

/-- Can the loop with this rank be drawn? -/
def drawnR (n r : Nat) : Bool := match loopL (rankedL n r) with
  | some ps => drawnP ps
  | none => false

def drawnTo (n k : Nat) : Nat := ((List.range k).filter (drawnR n)).length

theorem drawnTo_succ (n k : Nat) : drawnTo n (k + 1) = drawnTo n k + if drawnR n k then 1 else 0 := by
  unfold drawnTo
  rw [List.range_succ, List.filter_append, List.length_append]
  by_cases h : drawnR n k = true
  · rw [if_pos h, List.filter_cons_of_pos h]; rfl
  · rw [if_neg h, List.filter_cons_of_neg h]; rfl

theorem drawnTo_le (n k : Nat) : drawnTo n k ≤ k := by
  unfold drawnTo
  have := List.length_filter_le (drawnR n) (List.range k)
  rwa [List.length_range] at this

set_option maxHeartbeats 400000 in
theorem iCanBeDrawn_ranked (n r : Nat) (w : World) (h4 : n ≤ 4) (hr : r < waysN 0 n) :
    Calls Try.prog 60 #[.string (txL (rankedL n r))] w fun e w' => e = .returned (.tuple #[.bool (drawnR n r), .bool true]) ∧ Below w.heap.size w w' := by
  obtain ⟨ps, hl⟩ := ranked_loop n r h4 hr
  have h8 := (loopL_some hl).1.few
  have hz : (txL (rankedL n r)).size ≤ 1048576 := by rw [txL_size, (loopL_some hl).1.len]; omega
  have hd : drawnR n r = drawnP ps := by unfold drawnR; rw [hl]
  rw [hd]
  obtain ⟨X, hX⟩ : ∃ X, txL (rankedL n r) = X := ⟨_, rfl⟩
  have hl2 : loopL X.data.toList = some ps := by rw [← hX]; exact hl
  rw [hX] at hz ⊢
  clear hl hX hd hr
  go_enter Try.func60, Try.ntmps60
  go_wp2_with (first | (go_at_call 85; (with_reducible refine (told_drawn X ps _ hz h8 hl2).mono ?_); rintro e w1 ⟨rfl, hb1⟩))
  go_ret2
  exact ⟨rfl, hb1⟩

theorem loDrawn_ranked (n r : Nat) (w : World) (h4 : n ≤ 4) (hr : r < waysN 0 n) :
    Calls Try.prog 59 #[.string (txL (rankedL n r))] w fun e w' => e = .returned (.bool (drawnR n r)) ∧ Below w.heap.size w w' := by
  obtain ⟨ps, hl⟩ := ranked_loop n r h4 hr
  have hd : drawnR n r = drawnP ps := by unfold drawnR; rw [hl]
  rw [hd]
  exact loDrawn_any (txL (rankedL n r)) ps w (loopL_some hl).1

set_option maxHeartbeats 1000000 in
theorem core_CountDrawn (n : Int) (x : Int) (b : Bool) (w : World) 
    (hs : ∀ W : World, Calls Try.prog 25 #[.int .i64 n] W fun e w' => e = .returned (.tuple #[.int .i64 x, .bool b]) ∧ Below W.heap.size W w')
    (hi : ∀ W : World, Calls Try.prog 26 #[.int .i64 n] W fun e w' => e = .returned (.tuple #[.int .i64 x, .bool b]) ∧ Below W.heap.size W w') :
    Calls Try.prog 8 #[.int .i64 n] w fun e w' => e = .returned (.bool true) ∧ Below w.heap.size w w' := by
  have HS := Lib.hid hs
  have HI := Lib.hid hi
  clear hs hi 
  go_enter Try.func8, Try.ntmps8
  go_wp2_with (first | (go_at_call 25; (with_reducible refine (HS.out _).mono ?_); rintro e w1 ⟨rfl, hb1⟩) | (go_at_call 26; (with_reducible refine (HI.out _).mono ?_); rintro e w2 ⟨rfl, hb2⟩))
  go_ret
  exact ⟨rfl, hb1.trans (hb2.mono hb1.size)⟩

set_option maxHeartbeats 1000000 in
set_option maxRecDepth 100000 in
theorem iCountDrawn_yes (n : Nat) (w : World) (h4 : n ≤ 4) :
    Calls Try.prog 26 #[.int .i64 n] w fun e w' => e = .returned (.tuple #[.int .i64 (drawnTo n (waysN 0 n) : Nat), .bool true]) ∧ Below w.heap.size w w' := by
  have hc4 := ways4 n h4
  have HALL := Lib.hid (fun W => iAllLoops_yes n W h4)
  have HD := Lib.hid (fun r W (hr : r < waysN 0 n) => iCanBeDrawn_ranked n r W h4 hr)
  have HG := Lib.hid (fun r (hr : r < waysN 0 n) => loopsT_get n r hr)
  have HL := Lib.hid (loopsT_length n)
  have HS := Lib.hid (fun k => drawnTo_succ n k)
  have HLE := Lib.hid (fun k => drawnTo_le n k)
  have H0 : drawnTo n 0 = 0 := rfl
  obtain ⟨c, hc⟩ : ∃ c, waysN 0 n = c := ⟨_, rfl⟩
  rw [hc] at HD HG HL hc4 ⊢
  clear hc
  go_enter Try.func26, Try.ntmps26
  go_wp2_with (first | (go_at_call 21; (with_reducible refine (HALL.out _).mono ?_); rintro e w1 ⟨v, rfl, hI, hb1⟩; (obtain ⟨a0, cap, g, rfl, ha, _, _, hcl, _⟩ := hI.1.form); (rw [HL.out] at ha hcl ⊢); (have HC1 := Lib.hid hcl); (have HB1 := Lib.hid hb1); (have hz1 := hb1.size); clear hI hcl hb1))
  go_loopw [6, 18] (fun s i wr => ∃ k : Nat, k ≤ c ∧ i = .int .i64 k ∧ s = .int .i64 (drawnTo n k : Nat) ∧ Below w1.heap.size w1 wr) (fun _ i _ => c - (intOf i).toNat)
  case atStart => exact ⟨0, by omega, rfl, by rw [H0]; rfl, Below.refl _ _⟩
  case round =>
    obtain ⟨k, hk, rfl, rfl, hB⟩ := hrel
    have hz := hB.size
    by_cases hlt : k < c
    · obtain rfl := ha (by omega)
      have hc := cellB hB (HC1.out k hlt)
      rw [HG.out k hlt] at hc
      have HB := Lib.hid hB
      have k0 : 0 ≤ (k : Int) := by omega
      have k1 : (k : Int) < (c : Int) := by omega
      have hs := HS.out k
      have hle := HLE.out k
      obtain ⟨s, hse⟩ : ∃ s, drawnTo n k = s := ⟨_, rfl⟩
      rw [hse] at hs hle ⊢
      have hws : IntKind.i64.wrap ((s : Int) + 1) = (s : Int) + 1 := by rw [IntKind.wrap_i64]; omega
      clear hB hse
      cases hd : drawnR n k with
      | true =>
        have HC := Lib.hid hd
        have HN := Lib.hid (show drawnTo n (k + 1) = s + 1 by rw [hs, hd]; rfl)
        clear hd hs hle
        go_wp2_with (first | (go_at_call 60; (with_reducible refine (HD.out k _ hlt).mono ?_); rintro e w3 ⟨rfl, hb3⟩; (rw [HC.out]); (have HB3 := Lib.hid (HB.out.trans (hb3.mono hz)))))
        go_roundw
        case rel => exact ⟨k + 1, by omega, by go_num, by rw [HN.out]; go_num, HB3.out⟩
        case measure => simp [intOf]; omega
      | false =>
        have HC := Lib.hid hd
        have HN := Lib.hid (show drawnTo n (k + 1) = s by rw [hs, hd]; rfl)
        clear hd hs hle
        go_wp2_with (first | (go_at_call 60; (with_reducible refine (HD.out k _ hlt).mono ?_); rintro e w3 ⟨rfl, hb3⟩; (rw [HC.out]); (have HB3 := Lib.hid (HB.out.trans (hb3.mono hz)))))
        go_roundw
        case rel => exact ⟨k + 1, by omega, by go_num, by rw [HN.out], HB3.out⟩
        case measure => simp [intOf]; omega
    · obtain rfl : k = c := by omega
      have HB := Lib.hid hB
      clear hB
      go_wp2
      go_ret2
      exact ⟨rfl, HB1.out.trans (HB.out.mono hz1)⟩

set_option maxHeartbeats 1000000 in
set_option maxRecDepth 100000 in
theorem sCountDrawn_yes (n : Nat) (w : World) (h4 : n ≤ 4) :
    Calls Try.prog 25 #[.int .i64 n] w fun e w' => e = .returned (.tuple #[.int .i64 (drawnTo n (waysN 0 n) : Nat), .bool true]) ∧ Below w.heap.size w w' := by
  have hc4 := ways4 n h4
  have HALL := Lib.hid (fun W => sAllLoops_yes n W h4)
  have HD := Lib.hid (fun r W (hr : r < waysN 0 n) => loDrawn_ranked n r W h4 hr)
  have HG := Lib.hid (fun r (hr : r < waysN 0 n) => loopsT_get n r hr)
  have HL := Lib.hid (loopsT_length n)
  have HS := Lib.hid (fun k => drawnTo_succ n k)
  have HLE := Lib.hid (fun k => drawnTo_le n k)
  have H0 : drawnTo n 0 = 0 := rfl
  obtain ⟨c, hc⟩ : ∃ c, waysN 0 n = c := ⟨_, rfl⟩
  rw [hc] at HD HG HL hc4 ⊢
  clear hc
  go_enter Try.func25, Try.ntmps25
  go_wp2_with (first | (go_at_call 20; (with_reducible refine (HALL.out _).mono ?_); rintro e w1 ⟨v, rfl, hI, hb1⟩; (obtain ⟨a0, cap, g, rfl, ha, _, _, hcl, _⟩ := hI.1.form); (rw [HL.out] at ha hcl ⊢); (have HC1 := Lib.hid hcl); (have HB1 := Lib.hid hb1); (have hz1 := hb1.size); clear hI hcl hb1))
  go_loopw [6, 18] (fun s i wr => ∃ k : Nat, k ≤ c ∧ i = .int .i64 k ∧ s = .int .i64 (drawnTo n k : Nat) ∧ Below w1.heap.size w1 wr) (fun _ i _ => c - (intOf i).toNat)
  case atStart => exact ⟨0, by omega, rfl, by rw [H0]; rfl, Below.refl _ _⟩
  case round =>
    obtain ⟨k, hk, rfl, rfl, hB⟩ := hrel
    have hz := hB.size
    by_cases hlt : k < c
    · obtain rfl := ha (by omega)
      have hc := cellB hB (HC1.out k hlt)
      rw [HG.out k hlt] at hc
      have HB := Lib.hid hB
      have k0 : 0 ≤ (k : Int) := by omega
      have k1 : (k : Int) < (c : Int) := by omega
      have hs := HS.out k
      have hle := HLE.out k
      obtain ⟨s, hse⟩ : ∃ s, drawnTo n k = s := ⟨_, rfl⟩
      rw [hse] at hs hle ⊢
      have hws : IntKind.i64.wrap ((s : Int) + 1) = (s : Int) + 1 := by rw [IntKind.wrap_i64]; omega
      clear hB hse
      cases hd : drawnR n k with
      | true =>
        have HC := Lib.hid hd
        have HN := Lib.hid (show drawnTo n (k + 1) = s + 1 by rw [hs, hd]; rfl)
        clear hd hs hle
        go_wp2_with (first | (go_at_call 59; (with_reducible refine (HD.out k _ hlt).mono ?_); rintro e w3 ⟨rfl, hb3⟩; (rw [HC.out]); (have HB3 := Lib.hid (HB.out.trans (hb3.mono hz)))))
        go_roundw
        case rel => exact ⟨k + 1, by omega, by go_num, by rw [HN.out]; go_num, HB3.out⟩
        case measure => simp [intOf]; omega
      | false =>
        have HC := Lib.hid hd
        have HN := Lib.hid (show drawnTo n (k + 1) = s by rw [hs, hd]; rfl)
        clear hd hs hle
        go_wp2_with (first | (go_at_call 59; (with_reducible refine (HD.out k _ hlt).mono ?_); rintro e w3 ⟨rfl, hb3⟩; (rw [HC.out]); (have HB3 := Lib.hid (HB.out.trans (hb3.mono hz)))))
        go_roundw
        case rel => exact ⟨k + 1, by omega, by go_num, by rw [HN.out], HB3.out⟩
        case measure => simp [intOf]; omega
    · obtain rfl : k = c := by omega
      have HB := Lib.hid hB
      clear hB
      go_wp2
      go_ret2
      exact ⟨rfl, HB1.out.trans (HB.out.mono hz1)⟩

set_option maxHeartbeats 1000000 in
theorem iCountDrawn_no1 (n : Int) (w : World) (h : ¬ (0 ≤ n ∧ n ≤ 8)) : Calls Try.prog 26 #[.int .i64 n] w fun e w' => e = .returned (.tuple #[.int .i64 0, .bool false]) ∧ Below w.heap.size w w' := by
  go_enter Try.func26, Try.ntmps26
  go_wp2_with (first | (go_at_call 21; (with_reducible refine (iAllLoops_no1 n _ h).mono ?_); rintro e w1 ⟨v, rfl, hI, hb1⟩; (obtain ⟨a0, cap, g, rfl, ha, _, _, hcl, _⟩ := hI.1.form); clear hI hcl))
  go_loopw [6, 18] (fun s i wr => i = .int .i64 0 ∧ s = .int .i64 0 ∧ w1 = wr) (fun _ i _ => 0)
  case atStart => exact ⟨rfl, rfl, rfl⟩
  case round =>
    obtain ⟨rfl, rfl, rfl⟩ := hrel
    go_wp2
    go_ret2
    exact ⟨rfl, hb1⟩

set_option maxHeartbeats 1000000 in
theorem iCountDrawn_no2 (n : Nat) (w : World) (h8 : n ≤ 8) (h4 : 4 < (n : Int)) : Calls Try.prog 26 #[.int .i64 n] w fun e w' => e = .returned (.tuple #[.int .i64 0, .bool false]) ∧ Below w.heap.size w w' := by
  go_enter Try.func26, Try.ntmps26
  go_wp2_with (first | (go_at_call 21; (with_reducible refine (iAllLoops_no2 n _ h8 h4).mono ?_); rintro e w1 ⟨v, rfl, hI, hb1⟩; (obtain ⟨a0, cap, g, rfl, ha, _, _, hcl, _⟩ := hI.1.form); clear hI hcl))
  go_loopw [6, 18] (fun s i wr => i = .int .i64 0 ∧ s = .int .i64 0 ∧ w1 = wr) (fun _ i _ => 0)
  case atStart => exact ⟨rfl, rfl, rfl⟩
  case round =>
    obtain ⟨rfl, rfl, rfl⟩ := hrel
    go_wp2
    go_ret2
    exact ⟨rfl, hb1⟩

set_option maxHeartbeats 400000 in
theorem sCountDrawn_no (n : Int) (w : World) (h : ¬ (0 ≤ n ∧ n ≤ 4)) : Calls Try.prog 25 #[.int .i64 n] w fun e w' => e = .returned (.tuple #[.int .i64 0, .bool false]) ∧ Below w.heap.size w w' := by
  go_enter Try.func25, Try.ntmps25
  go_wp2_with (first | (go_at_call 20; (with_reducible refine (sAllLoops_no n _ h).mono ?_); rintro e w1 ⟨v, rfl, hI, hb1⟩))
  go_ret2
  exact ⟨rfl, hb1⟩

theorem walk_CountDrawn (n : Int) (w : World) (_ : (Lit.int .i64 n).wf = true) :
    Calls Try.prog 8 #[.int .i64 n] w fun e w' => e = .returned (.bool true) ∧ Below w.heap.size w w' := by
  by_cases h : 0 ≤ n ∧ n ≤ 8
  · obtain ⟨k, rfl⟩ := Int.eq_ofNat_of_zero_le h.1
    by_cases h4 : k ≤ 4
    · exact core_CountDrawn _ _ _ w (fun W => sCountDrawn_yes k W h4) (fun W => iCountDrawn_yes k W h4)
    · exact core_CountDrawn _ _ _ w (fun W => sCountDrawn_no _ W (by omega)) (fun W => iCountDrawn_no2 k W (by omega) (by omega))
  · exact core_CountDrawn _ _ _ w (fun W => sCountDrawn_no n W (by omega)) (fun W => iCountDrawn_no1 n W h)

end Go.Proofs.Ytpcebcgmbngabab
