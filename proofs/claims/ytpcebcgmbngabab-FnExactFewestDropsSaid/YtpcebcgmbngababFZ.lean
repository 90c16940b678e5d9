/- Fewest chords to drop: the model's search. -/
import Derived.Test.YtpcebcgmbngababFY
namespace Go.Proofs.Ytpcebcgmbngabab
open Go.RowKit
set_option linter.unusedVariables false

/-- What the search gives. -/
def SaysD (w : World) (Bd : Nat) (r : Option (List Nat)) (e : Ending) (w' : World) : Prop :=
  ∃ v, e = .returned (.tuple #[v, .bool r.isSome]) ∧ (∀ x, r = some x → Ints w' Bd 3 v (mapI x)) ∧ Below w.heap.size w w'

set_option maxHeartbeats 4000000 in
theorem cdDrops_none (u dv : Value) (xs : List (Int × Int)) (B T Bd : Nat) (w : World) (h : PairsIn 96 w B T u xs) (hT : T ≤ w.heap.size) (ho : ∀ k, k < xs.length → (xs.getD k (0, 0)).1 < (xs.getD k (0, 0)).2) (h12 : xs.length ≤ 12)
    (d : List Nat) (hd : d.length ≤ 12) (hI : Ints w Bd 3 dv (mapI d)) (k0 : Int) :
    Calls Try.prog 71 #[u, dv, .int .i64 k0, .int .i64 0] w (SaysD w Bd (if freeP xs d then some d else none)) := by
  have HU := Lib.hid h
  have HI := Lib.hid hI
  have HO := Lib.hid ho
  have hml : (mapI d).length ≤ 12 := by unfold mapI; simpa using hd
  have hN : (allP xs xs.length).length ≤ 1600 := (pairs_small xs (by omega)).1
  have HY := Lib.hid (fun hh => free_yes (xs := xs) (d := d) hh)
  have HN := Lib.hid (fun k hk hh => free_no (xs := xs) (d := d) (k := k) hk hh)
  have HP := Lib.hid (pair_at xs)
  obtain ⟨a1, c1, g1, rfl, _⟩ := h.pairs.view
  obtain ⟨f, hf⟩ : ∃ f, freeP xs d = f := ⟨_, rfl⟩
  rw [hf] at HY HN ⊢
  obtain ⟨R, hR⟩ : ∃ R, (if f = true then some d else none) = R := ⟨_, rfl⟩
  have HR := Lib.hid hR
  rw [hR]
  clear h hI ho hf hd hR
  go_enter Try.func71, Try.ntmps71
  go_wp2_with (first
    | (go_at_call 99; (with_reducible refine (cdPairs_any _ xs B T _ HU.out HO.out (by omega)).mono ?_); rintro e w1 ⟨v, rfl, hr, hb1⟩; have hz1 := hb1.size; obtain ⟨vs, hv⟩ := hr; obtain ⟨a0, cap, g, rfl, ha0, hml0, hc, _⟩ := hv.view; have HV := Lib.hid hv; have HA := Lib.hid ha0; have HC := Lib.hid hc; clear hv ha0 hc))
  obtain ⟨N, hNN⟩ : ∃ N, (allP xs xs.length).length = N := ⟨_, rfl⟩
  rw [hNN] at HY HN HP HA HC hN ⊢
  have HNN := Lib.hid hNN
  clear hNN
  go_loopw [20] (fun i wr => ∃ k : Nat, k ≤ N ∧ i = .int .i64 k ∧ Hid (∀ j, j < k → hitP d ((allP xs xs.length).getD j []) = true) ∧ Below w1.heap.size w1 wr) (fun i _ => N - (intOf i).toNat)
  case atStart => exact ⟨0, by omega, rfl, Lib.hid (fun j hj => absurd hj (by omega)), Below.refl _ _⟩
  case round =>
    obtain ⟨k, hk, rfl, HH, hB⟩ := hrel
    have hz := hB.size
    have hBw := hb1.trans (hB.mono hz1)
    by_cases hlt : k < N
    · obtain rfl := HA.out (by omega)
      obtain ⟨a, b, hab, h1, h2⟩ := HP.out k hlt
      obtain ⟨gr, cp, hv, c0, c1⟩ := HV.out.pair (by rw [HNN.out]; exact hlt) hab
      have cc := HC.out k hlt
      rw [hv] at cc
      have d0 := cellB hB c0
      have d1 := cellB hB c1
      have dc := cellB hB cc
      have HIr := Lib.hid (HI.out.later hBw)
      have hh : hitP d ((allP xs xs.length).getD k []) = ((mapI d).contains (a : Int) || (mapI d).contains (b : Int)) := by rw [hab]; rfl
      obtain ⟨q1, e1⟩ : ∃ q, (mapI d).contains (a : Int) = q := ⟨_, rfl⟩
      obtain ⟨q2, e2⟩ : ∃ q, (mapI d).contains (b : Int) = q := ⟨_, rfl⟩
      rw [e1, e2] at hh
      have HA1 := Lib.hid (fun W (hi : Ints W Bd 3 dv (mapI d)) => show Calls Try.prog 100 #[dv, .int .i64 (a : Int)] W fun e' w' => e' = .returned (.bool q1) ∧ W = w' from by rw [← e1]; exact l1HasE_any dv (mapI d) a Bd 3 W hi (by omega))
      have HA2 := Lib.hid (fun W (hi : Ints W Bd 3 dv (mapI d)) => show Calls Try.prog 100 #[dv, .int .i64 (b : Int)] W fun e' w' => e' = .returned (.bool q2) ∧ W = w' from by rw [← e2]; exact l1HasE_any dv (mapI d) b Bd 3 W hi (by omega))
      have HHH := Lib.hid hh
      clear hh e1 e2 c0 c1 cc hv hab h1 h2
      cases q1 with
      | true =>
        go_wp2_with (first | (go_at_call 100; (with_reducible refine (HA1.out _ HIr.out).mono ?_); rintro e w2 ⟨rfl, rfl⟩))
        go_roundw
        case rel => exact ⟨k + 1, by omega, by go_num, Lib.hid (fun j hj => by
          rcases Nat.lt_or_ge j k with h | h
          · exact HH.out j h
          · obtain rfl : j = k := by omega
            exact HHH.out), hB⟩
        case measure => simp [intOf]; omega
      | false =>
        cases q2 with
        | true =>
          go_wp2_with (first | (go_at_call 100; (with_reducible refine (HA1.out _ HIr.out).mono ?_); rintro e w2 ⟨rfl, rfl⟩) | (go_at_call 100; (with_reducible refine (HA2.out _ HIr.out).mono ?_); rintro e w2 ⟨rfl, rfl⟩))
          go_roundw
          case rel => exact ⟨k + 1, by omega, by go_num, Lib.hid (fun j hj => by
            rcases Nat.lt_or_ge j k with h | h
            · exact HH.out j h
            · obtain rfl : j = k := by omega
              exact HHH.out), hB⟩
          case measure => simp [intOf]; omega
        | false =>
          obtain rfl := HN.out k hlt HHH.out
          obtain rfl := HR.out
          go_wp2_with (first | (go_at_call 100; (with_reducible refine (HA1.out _ HIr.out).mono ?_); rintro e w2 ⟨rfl, rfl⟩) | (go_at_call 100; (with_reducible refine (HA2.out _ HIr.out).mono ?_); rintro e w2 ⟨rfl, rfl⟩))
          go_ret2
          exact ⟨_, rfl, fun x hx => by simp at hx, hBw⟩
    · obtain rfl : k = N := by omega
      obtain rfl := HY.out HH.out
      obtain rfl := HR.out
      go_wp2
      go_ret2
      exact ⟨_, rfl, fun x hx => by simp at hx; subst hx; exact HI.out.later hBw, hBw⟩

end Go.Proofs.Ytpcebcgmbngabab
