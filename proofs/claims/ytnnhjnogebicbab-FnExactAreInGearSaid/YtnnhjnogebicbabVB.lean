/- Slices of integers that are the first part of an array: what the laws do with them. -/
import Derived.Test.YtnnhjnogebicbabV0
import Derived.Test.YtnnhjnogebicbabI1
import Derived.Test.YtnnhjnogebicbabB8
namespace Go.Proofs.Ytnnhjnogebicbab
open Go.RowKit
set_option linter.unusedVariables false

/-- The slice v is the first part of an array that lies in one of the blocks B, .. T - 1, and holds xs. -/
def CutI (t : TypeId) (w : World) (B T : Nat) (v : Value) (xs : List Int) : Prop :=
  xs.length ≤ 1000 ∧ ∃ (a0 : Option Addr) (cap g : Nat) (L : List Int), v = .slice a0 xs.length cap ∧ (0 < xs.length → a0 = some ⟨g, 0, none⟩ ∧ B ≤ g ∧ g < T ∧ ArrAt t w g L) ∧ xs.length ≤ L.length ∧ ∀ i, i < xs.length → L.getD i 0 = xs.getD i 0

theorem CutI.keep {t : TypeId} {w w' : World} {B T : Nat} {v : Value} {xs : List Int} (h : CutI t w B T v xs) (hs : Same B T w w') : CutI t w' B T v xs := by
  obtain ⟨hn, a0, cap, g, L, hv, ha, hl, hc⟩ := h
  refine ⟨hn, a0, cap, g, L, hv, fun h0 => ?_, hl, hc⟩
  obtain ⟨h1, h2, h3, h4⟩ := ha h0
  exact ⟨h1, h2, h3, (hs g h2 h3).trans h4⟩

theorem CutI.arg {t : TypeId} {w : World} {B T : Nat} {v : Value} {xs : List Int} (h : CutI t w B T v xs) : ArgI w v xs := by
  obtain ⟨hn, a0, cap, g, L, hv, ha, hl, hc⟩ := h
  refine ⟨a0, cap, ⟨g, 0, none⟩, hv, fun h0 => (ha h0).1, by unfold maxLen; omega, fun i hi => ?_⟩
  rw [Go.WideShapes.add_plain]
  have := (ha (by omega)).2.2.2.cell i (by omega)
  rw [hc i hi] at this
  simpa using this

theorem CutI.nil (t : TypeId) (w : World) (B T : Nat) : CutI t w B T (.slice none 0 0) [] :=
  ⟨by simp, none, 0, 0, [], rfl, fun h => absurd h (by simp), by simp, fun i hi => absurd hi (by simp)⟩

theorem argI_ints {e : TypeId} {w : World} {B T : Nat} {v : Value} {xs : List Int} (h : IntsIn e w B T v xs) : ArgI w v xs := by
  obtain ⟨a0, cap, g, hv, ha, _, hm, _, hc, _⟩ := h.1.view
  exact ⟨a0, cap, ⟨g, 0, none⟩, hv, ha, hm, fun i hi => by rw [Go.WideShapes.add_plain]; simpa using hc i hi⟩

theorem set_grown (W : World) (b j : Nat) (u : Value) : W.grownBy (W.setCell ⟨b, j, none⟩ u) (some b) :=
  ⟨rfl, rfl, rfl, (by show W.heap.size ≤ (W.heap.modify _ _).size; rw [Array.size_modify]; exact Nat.le_refl _), fun k _ hne => Below.heap_setCell _ _ _ k (fun e => hne (by rw [e]))⟩

theorem Only.set {B T b : Nat} {w w' : World} (h : Only B T w w') (hb : B ≤ b ∧ b < T) (j : Nat) (u : Value) : Only B T w (w'.setCell ⟨b, j, none⟩ u) :=
  h.trans (by
    have g := set_grown w' b j u
    exact ⟨g.os, g.tape, g.output, g.size, fun k hk hn => g.block k hk (fun e => hn (by cases e; exact hb))⟩)

set_option maxHeartbeats 400000 in
theorem eqIntS_args (v1 v2 : Value) (xs : List Int) (w : World) (h1 : ArgI w v1 xs) (h2 : ArgI w v2 xs) :
    Calls Try.prog 13 #[v1, v2] w fun e w' => e = .returned (.bool true) ∧ Below w.heap.size w w' := by
  obtain ⟨a1, c1, g1, rfl, ha1, hm, hc1⟩ := h1
  obtain ⟨a2, c2, g2, rfl, ha2, _, hc2⟩ := h2
  unfold maxLen at hm
  have HC1 := Lib.hid hc1
  have HC2 := Lib.hid hc2
  have HA1 := Lib.hid ha1
  have HA2 := Lib.hid ha2
  clear hc1 hc2 ha1 ha2
  go_enter Try.func13, Try.ntmps13
  go_wp2
  go_loopw [5] (fun i wr => ∃ k q : Nat, k ≤ xs.length ∧ i = .int .i64 k ∧ wr = w.drewN q) (fun i _ => xs.length - (intOf i).toNat)
  case atStart => exact ⟨0, 0, by omega, rfl, rfl⟩
  case round =>
    obtain ⟨k, q, hk, rfl, rfl⟩ := hrel
    by_cases hlt : k < xs.length
    · obtain rfl := HA1.out (by omega)
      obtain rfl := HA2.out (by omega)
      have cc1 := HC1.out k hlt
      have cc2 := HC2.out k hlt
      have hi1 : 0 ≤ (k : Int) := by omega
      go_wp2
      go_quiet (fail)
      go_wp2
      go_roundw
      case rel => exact ⟨k + 1, q + nq, by omega, by go_num, by simp⟩
      case measure => simp [intOf]; omega
    · go_wp2
      go_ret
      exact ⟨rfl, bdn (Below.refl _ _) q⟩

theorem eqIntS_cut (v1 v2 : Value) (xs : List Int) (B1 T1 B2 T2 : Nat) (t e : TypeId) (w : World) (h1 : CutI t w B1 T1 v1 xs) (h2 : IntsIn e w B2 T2 v2 xs) :
    Calls Try.prog 13 #[v1, v2] w fun e w' => e = .returned (.bool true) ∧ Below w.heap.size w w' :=
  eqIntS_args v1 v2 xs w h1.arg (argI_ints h2)

set_option maxHeartbeats 400000 in
theorem heldIntS_cut (v : Value) (m : Int) (n : Nat) (B T : Nat) (t : TypeId) (w : World) (h : CutI t w B T v (marks m n)) (hm1 : 0 ≤ m) (hm2 : m ≤ 1000000000) (hn : n ≤ 1000000000) :
    Calls Try.prog 15 #[v, .int .i64 m] w fun e w' => e = .returned (.int .i64 (m + n)) ∧ Below w.heap.size w w' := by
  obtain ⟨a1, c1, g1, rfl, ha1, _, hc1⟩ := h.arg
  have hc : ∀ i, i < n → w.cell? (g1.add i) = some (.int .i64 (m + (i : Int))) := fun i hi => by
    rw [hc1 i (by rw [marks_length]; exact hi), marks_get m n i hi]
  rw [marks_length] at ha1 ⊢
  have HC := Lib.hid hc
  have HA := Lib.hid ha1
  clear hc hc1 ha1 h
  go_enter Try.func15, Try.ntmps15
  go_wp2
  go_loop [1, 5] (fun u i => ∃ k : Nat, k ≤ n ∧ i = .int .i64 k ∧ u = .int .i64 (m + (k : Int))) (fun _ i => n - (intOf i).toNat)
  case atStart => exact ⟨0, by omega, rfl, by simp⟩
  case round =>
    obtain ⟨k, hk, rfl, rfl⟩ := hrel
    by_cases hlt : k < n
    · obtain rfl := HA.out (by omega)
      have cc := HC.out k hlt
      go_wp2
      go_round
      case rel => exact ⟨k + 1, by omega, by go_num, by simp; omega⟩
      case measure => simp [intOf]; omega
    · obtain rfl : k = n := by omega
      go_wp2
      go_ret
      exact ⟨rfl, Below.refl _ _⟩

set_option maxHeartbeats 400000 in
theorem markIntS_cut (v : Value) (xs : List Int) (m : Int) (B T : Nat) (t : TypeId) (w : World) (h : CutI t w B T v xs) (hm1 : 0 ≤ m) (hm2 : m ≤ 1000000000) (hn : xs.length ≤ 1000000000) :
    Calls Try.prog 14 #[v, .int .i64 m] w fun e' w' => e' = .returned (.int .i64 (m + xs.length)) ∧ CutI t w' B T v (marks m xs.length) ∧ Only B T w w' := by
  obtain ⟨hx, a0, cap, g, L, rfl, ha, hl, hc⟩ := h
  have HA := Lib.hid ha
  obtain ⟨n, hnn⟩ : ∃ n, xs.length = n := ⟨_, rfl⟩
  rw [hnn] at HA hl hx hn ⊢
  clear hc ha hnn
  go_enter Try.func14, Try.ntmps14
  go_wp2
  go_loopw [1, 5] (fun u i wr => ∃ (k : Nat) (L' : List Int), k ≤ n ∧ i = .int .i64 k ∧ u = .int .i64 (m + (k : Int)) ∧ L'.length = L.length ∧ Hid (∀ i, i < k → L'.getD i 0 = m + (i : Int)) ∧ Hid (0 < n → ArrAt t wr g L') ∧ Only B T w wr) (fun _ i _ => n - (intOf i).toNat)
  case atStart => exact ⟨0, L, by omega, rfl, by simp, rfl, Lib.hid (fun i hi => absurd hi (by omega)), Lib.hid (fun h0 => (HA.out h0).2.2.2), Only.refl _ _ _⟩
  case round =>
    obtain ⟨k, L', hk, rfl, rfl, hll, HV, HR, hO⟩ := hrel
    by_cases hlt : k < n
    · obtain ⟨rfl, hb1, hb2, _⟩ := HA.out (by omega)
      have hr := HR.out (by omega)
      have cc := hr.cell k (by omega)
      have ff := hr.frozen k
      have HS := Lib.hid (hr.stored k (m + (k : Int)))
      have HO := Lib.hid (hO.set ⟨hb1, hb2⟩ k (.int .i64 (m + (k : Int))))
      have HV' : Hid (∀ i, i < k + 1 → (L'.set k (m + (k : Int))).getD i 0 = m + (i : Int)) := Lib.hid (fun i hi => by
        by_cases he : i = k
        · subst he; simp [List.getD, show i < L'.length by omega]
        · have := HV.out i (by omega)
          rw [← this]
          simp [List.getD, show ¬ k = i by omega])
      have HL' := Lib.hid (show (L'.set k (m + (k : Int))).length = L.length by rw [List.length_set]; exact hll)
      clear hr hO
      generalize L'.getD k 0 = old at cc
      go_wp2
      go_roundw
      case rel => exact ⟨k + 1, L'.set k (m + (k : Int)), by omega, by go_num, by simp; omega, HL'.out, HV', Lib.hid (fun _ => HS.out), HO.out⟩
      case measure => simp [intOf]; omega
    · obtain rfl : k = n := by omega
      go_wp2
      go_ret
      refine ⟨rfl, ⟨by rw [marks_length]; exact hx, a0, cap, g, L', by rw [marks_length], fun h0 => ?_, by rw [marks_length]; omega, fun i hi => ?_⟩, hO⟩
      · rw [marks_length] at h0
        obtain ⟨h1, h2, h3, _⟩ := HA.out h0
        exact ⟨h1, h2, h3, HR.out h0⟩
      · rw [marks_length] at hi
        rw [HV.out i hi, marks_get m k i hi]

/-- A call returns xs in the first part of an array of its own, and b. -/
theorem giveCut {t : TypeId} {w w' : World} {v : Value} {xs : List Int} (b : Bool) (h : CutI t w' w.heap.size w'.heap.size v xs) (hb : Below w.heap.size w w') : Gives (CutI t) w xs b (.returned (.tuple #[v, .bool b])) w' :=
  ⟨v, rfl, h, hb⟩

end Go.Proofs.Ytnnhjnogebicbab
