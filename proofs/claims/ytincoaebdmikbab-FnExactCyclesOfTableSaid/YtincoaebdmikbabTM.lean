/- The least and the greatest of a list, by the library. -/
import Derived.Test.YtincoaebdmikbabT5
namespace Go.Proofs.Ytincoaebdmikbab
open Go.RowKit
set_option linter.unusedVariables false

set_option maxHeartbeats 1000000 in
theorem min_any (g n cap : Nat) (ys : List Int) (m : Int) (w : World) (hl : ys.length = n) (h1 : 1 ≤ n) (hn : n ≤ 1000) (hc : ∀ i, i < n → w.cell? ⟨g, i, none⟩ = some (.int .i64 (ys.getD i 0))) (hm : ∀ i, i < n → ys.getD i 0 ≥ m) (he : ∃ i, i < n ∧ ys.getD i 0 = m) :
    Calls Try.prog 36 #[.slice (some ⟨g, 0, none⟩) n cap] w fun e w' => e = .returned (.int .i64 m) ∧ Below w.heap.size w w' := by
  have HC := Lib.hid hc
  have HM := Lib.hid hm
  have HE := Lib.hid he
  have c0 := hc 0 (by omega)
  obtain ⟨y0, hy0⟩ : ∃ y, ys.getD 0 0 = y := ⟨_, rfl⟩
  rw [hy0] at c0
  have HY0 := Lib.hid hy0
  clear hc hl hm he hy0
  go_enter Try.func36, Try.ntmps36
  go_wp2
  go_loopw [3, 4] (fun u v wr => ∃ (k q : Nat) (x : Int), 1 ≤ k ∧ k ≤ n ∧ v = .int .i64 k ∧ u = .int .i64 x ∧ Hid ((∀ i, i < k → ys.getD i 0 ≥ x) ∧ ∃ i, i < k ∧ ys.getD i 0 = x) ∧ wr = w.drewN q) (fun _ v _ => n - (intOf v).toNat)
  case atStart => exact ⟨1, 0, y0, by omega, h1, rfl, rfl, Lib.hid ⟨fun i hi => by obtain rfl : i = 0 := (by omega); rw [HY0.out]; exact Int.le_refl _, 0, by omega, HY0.out⟩, rfl⟩
  case round =>
    obtain ⟨k, q, x, hk1, hk2, rfl, rfl, HX, rfl⟩ := hrel
    by_cases hlt : k < n
    · have cc := HC.out k hlt
      obtain ⟨y, hy⟩ : ∃ y, ys.getD k 0 = y := ⟨_, rfl⟩
      rw [hy] at cc
      have HN : Hid ((∀ i, i < k + 1 → ys.getD i 0 ≥ min x y) ∧ ∃ i, i < k + 1 ∧ ys.getD i 0 = min x y) := Lib.hid ⟨fun i hi => by
          rcases Nat.lt_or_ge i k with h | h
          · have := HX.out.1 i h; omega
          · obtain rfl : i = k := by omega
            rw [hy]; omega, by
          obtain ⟨j, hj, hx⟩ := HX.out.2
          by_cases hxy : min x y = x
          · exact ⟨j, by omega, by rw [hx, hxy]⟩
          · exact ⟨k, by omega, by rw [hy]; omega⟩⟩
      clear hy
      have k0 : 0 ≤ (k : Int) := by omega
      go_wp2
      go_roundw
      case rel => exact ⟨k + 1, q, min x y, by omega, by omega, by go_num, by congr 1; split <;> omega, HN, rfl⟩
      case measure => simp [intOf]; omega
    · obtain rfl : k = n := by omega
      have hxm : x = m := by
        obtain ⟨i, hi, e⟩ := HE.out
        obtain ⟨j, hj, e2⟩ := HX.out.2
        have a := HX.out.1 i hi
        have b := HM.out j hj
        omega
      subst hxm
      go_wp2
      go_ret
      exact ⟨rfl, bdn (Below.refl _ _) _⟩

end Go.Proofs.Ytincoaebdmikbab
