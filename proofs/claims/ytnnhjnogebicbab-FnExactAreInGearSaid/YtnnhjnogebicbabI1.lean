/- Arguments that are slices of integers: what they hold, and what the laws read of them. -/
import Derived.Test.YtnnhjnogebicbabV0
import Derived.Deep.Slices
namespace Go.Proofs.Ytnnhjnogebicbab
open Go.RowKit Go.ChangeShapes Go.WideShapes
set_option linter.unusedVariables false

/-- The slice v, which came in, holds the integers xs. -/
def ArgI (w : World) (v : Value) (xs : List Int) : Prop :=
  ∃ (a0 : Option Addr) (cap : Nat) (a : Addr), v = .slice a0 xs.length cap ∧ (0 < xs.length → a0 = some a) ∧ xs.length ≤ maxLen ∧
    ∀ i, i < xs.length → w.cell? (a.add i) = some (.int .i64 (xs.getD i 0))

theorem ArgI.later {w w' : World} {v : Value} {xs : List Int} (h : ArgI w v xs) (hb : Below w.heap.size w w') : ArgI w' v xs := by
  obtain ⟨a0, cap, a, hv, ha, hm, hc⟩ := h
  exact ⟨a0, cap, a, hv, ha, hm, fun i hi => (hb.cell (World.block_lt_of_cell? w _ (hc i hi))).trans (hc i hi)⟩

theorem argI_of {H : Type} {enc : TypeId × Value → H} {P : Program} {w : World} {base b0 : Nat} {spare : Nat → Bool} {held : Bool} {r : Reach} {t e : TypeId} {v : Value} {d : DataW H} {p : List MemPlace}
    (ht : P.underlying t = some (.slice e)) (he : P.underlying e = some (.int .i64)) (ce : P.cellsOf e = 1)
    (hv : Value.okWide P w r b0 t v) (h : DataW.Trod enc P w base spare held t v d p) : ∃ xs, ArgI w v xs := by
  obtain ⟨a, len, cap, rfl⟩ := okWide_slice ht hv
  obtain ⟨fuel, hf⟩ := h
  rcases Go.Deep.open_slice1 ht ce hf with ⟨hcs, _⟩ | ⟨a', len', cap', m, n, V, D, Pl, hcs, hb, hl, hm, hmm, hx, hi⟩
  · simp [Value.cells] at hcs
    obtain ⟨rfl, rfl, rfl⟩ := hcs
    exact ⟨[], none, 0, ⟨0, 0, none⟩, rfl, by simp, by simp, by simp⟩
  · simp [Value.cells] at hcs
    obtain ⟨rfl, rfl, rfl⟩ := hcs
    refine ⟨(List.range len).map fun i => intOf (V i), some a', cap, a', by simp, fun _ => rfl, by simp; omega, fun i h => ?_⟩
    have hlen : i < len := by simpa using h
    have him : i < m := by rw [hmm]; split <;> omega
    obtain ⟨h0, t0⟩ := hi i him
    obtain ⟨x, ex, _, _⟩ := DataW.trod_int he t0
    simp at ex
    rw [h0, ex]
    simp [List.getD, List.getElem?_map, List.getElem?_range hlen, ex, intOf]

theorem range_getI (xs : List Int) : (List.range xs.length).map (fun i => xs.getD i 0) = xs := by
  refine List.ext_getElem? fun i => ?_
  rw [List.getElem?_map]
  by_cases h : i < xs.length
  · rw [List.getElem?_range h]
    simp [List.getD, List.getElem?_eq_getElem h]
  · rw [List.getElem?_eq_none (by simp; omega), List.getElem?_eq_none (by omega)]
    rfl

set_option maxHeartbeats 400000 in
theorem toIntS_any (v : Value) (xs : List Int) (w : World) (h : ArgI w v xs) (hn : xs.length ≤ 1048576) :
    Calls Try.prog 11 #[v] w fun e w' => ∃ v', e = .returned v' ∧ IntsIn 3 w' w.heap.size w'.heap.size v' xs ∧ Below w.heap.size w w' := by
  obtain ⟨a0, cap, a, rfl, ha, hm, hc⟩ := h
  have HC := Lib.hid hc
  have HA := Lib.hid ha
  have HE := Lib.hid (range_getI xs)
  clear ha hc
  obtain ⟨n, hnn⟩ : ∃ n, n = xs.length := ⟨_, rfl⟩
  rw [← hnn] at HC HA HE hm hn ⊢
  have hmk := make_ints (P := Try.prog) Try.underlying22 info_int n (by omega)
  clear hnn
  go_enter Try.func11, Try.ntmps11
  go_wp2
  go_loopw [4] (fun i wr => ∃ k : Nat, k ≤ n ∧ i = .int .i64 k ∧ Ints wr w.heap.size 3 (.slice (some ⟨w.heap.size, 0, none⟩) n n) (fillTo (fun i => xs.getD i 0) n k) ∧ Below w.heap.size w wr) (fun i _ => n - (intOf i).toNat)
  case atStart => exact ⟨0, by omega, rfl, by rw [fillTo_zero]; exact Ints.made w w.heap.size _ n (Nat.le_refl _) (by omega), by go_grown⟩
  case round =>
    obtain ⟨k, hk, rfl, hI, hB⟩ := hrel
    by_cases hlt : k < n
    · obtain rfl := HA.out (by omega)
      obtain ⟨x, hx⟩ : ∃ x, xs.getD k 0 = x := ⟨_, rfl⟩
      have hc0 := HC.out k hlt
      rw [hx] at hc0
      have cx : wr.cell? (a.add k) = some (.int .i64 x) := (hB.cell (World.block_lt_of_cell? w _ hc0)).trans hc0
      have HF := Lib.hid (fillTo_set (fun i => xs.getD i 0) n k hlt)
      have HX := Lib.hid hx
      have hl := fillTo_length (fun i => xs.getD i 0) n k hk
      have HS := Lib.hid (hI.stored k x)
      have d0 := hI.cellAt k (by rw [fillTo_length _ _ _ hk]; omega)
      have f0 := hI.frozenAt k
      have HB3 := Lib.hid (hI.below hB hB.size HS.out.2)
      clear hc0 hx hI hB
      go_wp2
      go_roundw
      case rel => exact ⟨k + 1, by omega, by go_num, by rw [← HF.out, HX.out]; exact HS.out.1, HB3.out⟩
      case measure => simp [intOf]; omega
    · obtain rfl : k = n := by omega
      rw [fillTo_all, HE.out] at hI
      go_wp2
      go_ret
      exact ⟨_, rfl, hI.inn, hB⟩

end Go.Proofs.Ytnnhjnogebicbab
