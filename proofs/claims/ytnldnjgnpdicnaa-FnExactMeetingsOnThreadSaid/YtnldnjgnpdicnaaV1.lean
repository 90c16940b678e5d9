/- What the laws do with slices of integers: they hold them against each other, mark them, and look for the marks. -/
import Derived.Test.YtnldnjgnpdicnaaRows
import Derived.Test.YtnldnjgnpdicnaaBA
namespace Go.Proofs.Ytnldnjgnpdicnaa
open Go.RowKit

set_option maxHeartbeats 400000 in
theorem eqIntS_same (v1 v2 : Value) (xs : List Int) (B1 B2 : Nat) (e : TypeId) (w : World) (h1 : Ints w B1 e v1 xs) (h2 : Ints w B2 e v2 xs) :
    Calls Try.prog 17 #[v1, v2] w fun e w' => e = .returned (.bool true) ∧ ∃ q, w' = w.drewN q := by
  obtain ⟨a1, c1, g1, rfl, ha1, _, hm, _, hc1, _⟩ := h1.view
  obtain ⟨a2, c2, g2, rfl, ha2, _, _, _, hc2, _⟩ := h2.view
  clear h1 h2
  unfold maxLen at hm
  have HC1 := Lib.hid hc1
  have HC2 := Lib.hid hc2
  have HA1 := Lib.hid ha1
  have HA2 := Lib.hid ha2
  clear hc1 hc2 ha1 ha2
  go_enter Try.func17, Try.ntmps17
  go_wp2
  go_loopw [5] (fun i wr => ∃ k q : Nat, k ≤ xs.length ∧ i = .int .i64 k ∧ wr = w.drewN q) (fun i _ => xs.length - (intOf i).toNat)
  case atStart => exact ⟨0, 0, by omega, rfl, rfl⟩
  case round =>
    obtain ⟨k, q, hk, rfl, rfl⟩ := hrel
    by_cases hlt : k < xs.length
    · obtain rfl := HA1.out (by omega)
      obtain rfl := HA2.out (by omega)
      have cc1 := HC1.out k hlt
      have cc2 := HC2.out k hlt
      have hi1 : 0 ≤ (k : Int) := by omega
      go_wp2
      go_quiet (fail)
      go_wp2
      go_roundw
      case rel => exact ⟨k + 1, q + nq, by omega, by go_num, by simp⟩
      case measure => simp [intOf]; omega
    · go_wp2
      go_ret
      exact ⟨rfl, q, rfl⟩

set_option maxHeartbeats 400000 in
theorem heldIntS_marks (v : Value) (m : Int) (n : Nat) (B : Nat) (e : TypeId) (w : World) (h : Ints w B e v (marks m n)) (hm1 : 0 ≤ m) (hm2 : m ≤ 1000000000) (hn : n ≤ 1000000000) :
    Calls Try.prog 21 #[v, .int .i64 m] w fun e w' => e = .returned (.int .i64 (m + n)) ∧ w = w' := by
  obtain ⟨a1, c1, g1, rfl, ha1, _, _, _, hc1, _⟩ := h.view
  have hc : ∀ i, i < n → w.cell? ⟨g1, i, none⟩ = some (.int .i64 (m + (i : Int))) := fun i hi => by
    rw [hc1 i (by rw [marks_length]; exact hi), marks_get m n i hi]
  rw [marks_length] at ha1 ⊢
  have HC := Lib.hid hc
  have HA := Lib.hid ha1
  clear hc hc1 ha1 h
  go_enter Try.func21, Try.ntmps21
  go_wp2
  go_loop [1, 5] (fun u i => ∃ k : Nat, k ≤ n ∧ i = .int .i64 k ∧ u = .int .i64 (m + (k : Int))) (fun _ i => n - (intOf i).toNat)
  case atStart => exact ⟨0, by omega, rfl, by simp⟩
  case round =>
    obtain ⟨k, hk, rfl, rfl⟩ := hrel
    by_cases hlt : k < n
    · obtain rfl := HA.out (by omega)
      have cc := HC.out k hlt
      go_wp2
      go_round
      case rel => exact ⟨k + 1, by omega, by go_num, by simp; omega⟩
      case measure => simp [intOf]; omega
    · obtain rfl : k = n := by omega
      go_wp2
      go_ret
      exact ⟨rfl, rfl⟩

set_option maxHeartbeats 400000 in
theorem markIntS_any (v : Value) (xs : List Int) (m : Int) (B : Nat) (e : TypeId) (w : World) (h : Ints w B e v xs) (hm1 : 0 ≤ m) (hm2 : m ≤ 1000000000) (hn : xs.length ≤ 1000000000) :
    Calls Try.prog 20 #[v, .int .i64 m] w fun e' w' => e' = .returned (.int .i64 (m + xs.length)) ∧ Ints w' B e v (marks m xs.length) ∧ w.grownBy w' v.ownBlock := by
  obtain ⟨a1, c1, g1, rfl, ha1, _, _, _, _, _⟩ := h.view
  have HA := Lib.hid ha1
  clear ha1
  have HI := Lib.hid h
  clear h
  go_enter Try.func20, Try.ntmps20
  go_wp2
  go_loopw [1, 5] (fun u i wr => ∃ k : Nat, k ≤ xs.length ∧ i = .int .i64 k ∧ u = .int .i64 (m + (k : Int)) ∧ Ints wr B e (.slice a1 xs.length c1) (markedTo m xs k) ∧ w.grownBy wr (Value.slice a1 xs.length c1).ownBlock) (fun _ i _ => xs.length - (intOf i).toNat)
  case atStart => exact ⟨0, by omega, rfl, by simp, by rw [markedTo_zero]; exact HI.out, grownBy_refl _ _⟩
  case round =>
    obtain ⟨k, hk, rfl, rfl, hI, hg⟩ := hrel
    by_cases hlt : k < xs.length
    · obtain rfl := HA.out (by omega)
      have hst := hI.stored k (m + (k : Int))
      rw [markedTo_set m xs k hlt] at hst
      have cc := hI.cellAt k (by rw [markedTo_length m xs k hk]; exact hlt)
      have ff := hI.frozenAt k
      have HS := Lib.hid hst
      clear hst
      go_wp2
      go_roundw
      case rel => exact ⟨k + 1, by omega, by go_num, by simp; omega, HS.out.1, grownBy_trans hg HS.out.2⟩
      case measure => simp [intOf]; omega
    · obtain rfl : k = xs.length := by omega
      rw [markedTo_all] at hI
      go_wp2
      go_ret
      exact ⟨rfl, hI, hg⟩

end Go.Proofs.Ytnldnjgnpdicnaa
