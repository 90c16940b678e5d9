/- Points under threads, counted: the program. -/
import Derived.Test.YtngonpiiehmlaabFO
namespace Go.Proofs.Ytngonpiiehmlaab
open Go.RowKit
set_option linter.unusedVariables false

set_option maxHeartbeats 400000 in
theorem lessOne_any (c : Nat) (w : World) (hc : c ≤ 1000) :
    Calls Try.prog 51 #[.int .i64 c] w fun e w' => e = .returned (.int .i64 ((c - 1 : Nat) : Int)) ∧ w = w' := by
  by_cases h : c = 0
  · subst h
    go_enter Try.func51, Try.ntmps51
    go_wp2
    go_ret
    exact ⟨rfl, rfl⟩
  · obtain ⟨d, rfl⟩ : ∃ d, c = d + 1 := ⟨c - 1, by omega⟩
    rw [Nat.add_sub_cancel]
    have hw : IntKind.i64.wrap (((d + 1 : Nat) : Int) - 1) = (d : Int) := by rw [IntKind.wrap_i64]; omega
    have hm : max (d : Int) 0 = (d : Int) := by omega
    go_enter Try.func51, Try.ntmps51
    go_wp2
    go_ret
    exact ⟨by first | (simp; done) | (simp; omega), rfl⟩

set_option maxHeartbeats 1000000 in
theorem sumCols_any (xs : List (Int × Int)) (g : Nat) (w : World) (hg : ∀ p, p ∈ xs → isT p.1 p.2) (ha : ArrAt 76 w g (colL xs 101)) :
    Calls Try.prog 50 #[.slice (some ⟨g, 1, none⟩) 100 100, .func (.func 51) #[] #[]] w fun e w' => e = .returned (.int .i64 (cuT xs 100 : Nat)) ∧ Below w.heap.size w w' := by
  have hx : ∀ k, k < 100 → w.cell? ⟨g, 1 + k, none⟩ = some (.int .i64 ((colT ((k + 1 : Nat) : Int) xs : Nat) : Int)) := fun k hk => by
    have := ha.cell (1 + k) (by rw [colL_length xs 101 (by omega)]; omega)
    rw [colL_get xs 101 (1 + k) (by omega), Nat.add_comm 1 k] at this
    rw [Nat.add_comm 1 k]
    exact this
  have X := Lib.hid hx
  obtain ⟨S, hS⟩ : ∃ S : Nat → Nat, S = cuT xs := ⟨_, rfl⟩
  obtain ⟨C, hC⟩ : ∃ C : Nat → Nat, C = fun k => colT ((k + 1 : Nat) : Int) xs := ⟨_, rfl⟩
  have SS := Lib.hid (show ∀ k, S (k + 1) = S k + (C k - 1) from fun k => by rw [hS, hC]; rfl)
  have SL := Lib.hid (show ∀ k, S k ≤ k * 100 from fun k => by rw [hS]; exact cuT_le hg k)
  have CL := Lib.hid (show ∀ k, C k ≤ 101 from fun k => by rw [hC]; exact colT_le hg (by omega))
  have CX := Lib.hid (show ∀ k, colT ((k + 1 : Nat) : Int) xs = C k from fun k => by rw [hC])
  have s0 : S 0 = 0 := by rw [hS]; rfl
  rw [← hS]
  clear hx hS hC ha hg
  go_enter Try.func50, Try.ntmps50
  go_wp2
  go_loopw [5, 10] (fun c i wr => ∃ k : Nat, k ≤ 100 ∧ i = .int .i64 k ∧ c = .int .i64 (S k : Nat) ∧ w = wr) (fun _ i _ => 100 - (intOf i).toNat)
  case atStart => exact ⟨0, by omega, rfl, by rw [s0]; rfl, rfl⟩
  case round =>
    obtain ⟨k, hk, rfl, rfl, rfl⟩ := hrel
    by_cases hlt : k < 100
    · have cx := X.out k hlt
      rw [CX.out] at cx
      have hst := SS.out k
      have l1 := SL.out k
      have l2 := CL.out k
      have k2 : (k : Int) < 100 := by omega
      obtain ⟨s, hs⟩ : ∃ s, S k = s := ⟨_, rfl⟩
      obtain ⟨c, hc⟩ : ∃ c, C k = c := ⟨_, rfl⟩
      rw [hs] at hst l1 ⊢
      rw [hc] at hst l2 cx
      have HST := Lib.hid hst
      obtain ⟨d, hd⟩ : ∃ d, c - 1 = d := ⟨_, rfl⟩
      have d1 : d ≤ 100 := by omega
      have hw : IntKind.i64.wrap ((s : Int) + (d : Int)) = ((s + d : Nat) : Int) := by rw [IntKind.wrap_i64]; omega
      have HD := Lib.hid hd
      clear hst hs hc hd
      go_wp2_with (first | (go_at_call 51; (refine (lessOne_any c _ (by omega)).mono ?_); rintro e w3 ⟨rfl, rfl⟩; rw [HD.out]))
      go_roundw
      case rel => exact ⟨k + 1, by omega, by go_num, by rw [HST.out, HD.out]; go_num, trivial⟩
      case measure => simp [intOf]; omega
    · obtain rfl : k = 100 := by omega
      go_wp2
      go_ret
      exact ⟨rfl, Below.refl _ _⟩

set_option maxHeartbeats 1000000 in
set_option maxRecDepth 100000 in
theorem iCountUnder_yes (u : Value) (xs : List (Int × Int)) (B T : Nat) (w : World) (h : PairsIn 55 w B T u xs) (hT : T ≤ w.heap.size) (hg : goodT xs) :
    Calls Try.prog 26 #[u] w fun e w' => e = .returned (.tuple #[.int .i64 (cuT xs 100 : Nat), .bool true]) ∧ Below w.heap.size w w' := by
  have HG := Lib.hid hg
  have HU := Lib.hid h
  obtain ⟨a1, c1, g1, rfl, _⟩ := h.pairs.view
  have HGM := Lib.hid hg.mem
  clear h hg
  obtain ⟨L, hL⟩ : ∃ L, colL xs 101 = L := ⟨_, rfl⟩
  have HL := Lib.hid hL
  have hLL : L.length = 101 := by rw [← hL]; exact colL_length xs 101 (by omega)
  obtain ⟨ZL, hZL⟩ : ∃ ZL : List Int, ZL = List.replicate 101 0 := ⟨_, rfl⟩
  have hal := zero_aggC (P := Try.prog) zero_cols
  rw [← hZL] at hal
  have HI : Hid ((Try.prog.info? 76).map (·.size) = some (intCells L).size) := Lib.hid (by rw [intCells_size, hLL]; exact info_cols)
  have HO : Hid ((intCells ZL).size = (intCells L).size) := Lib.hid (by rw [intCells_size, intCells_size, hLL, hZL]; simp)
  have HAo := Lib.hid (intCells_one L)
  clear hL hZL hLL
  go_enter Try.func26, Try.ntmps26
  go_wp2_with (first
    | (go_at_call 39; (with_reducible refine (AreThreads_yes _ _ B T _ HU.out HG.out).mono ?_); rintro e w1 ⟨rfl, hb1⟩; have HU1 := Lib.hid (HU.out.keep (belowSame hb1 hT)); have hz1 := hb1.size)
    | (go_at_call 49; (refine (columnsUnder_any _ xs B T _ HU1.out (by omega) HG.out).mono ?_); rintro e w2 ⟨rfl, hb2⟩; rw [HL.out]; have hz2 := hb2.size; have hB2 := hb1.trans (hb2.mono hz1); have HS0 := Lib.hid (heap_alloc_new w2 (.cells (intCells ZL) 76)); have HS := Lib.hid (setRow_heap (w2.alloc (.cells (intCells ZL) 76)) w2.heap.size _ (intCells L) _ _ HS0.out); have HB := Lib.hid (below_setRow (B := w.heap.size) (g := w2.heap.size) (w0 := w) (w := w2.alloc (.cells (intCells ZL) 76)) (hB2.alloc hB2.size _) hB2.size (intCells L)))
    | (with_reducible refine wpList_store_row rfl 76 (.tmp 4) (.tmp 9) rfl w2.heap.size (intCells L) rfl rfl 76 (intCells ZL) HS0.out HI.out HO.out HAo.out ?_)
    | (go_at_call 50; (refine (sumCols_any xs w2.heap.size _ HGM.out (by rw [HL.out]; exact HS.out)).mono ?_); rintro e w3 ⟨rfl, hb3⟩))
  go_ret2
  exact ⟨rfl, HB.out.trans (hb3.mono HB.out.size)⟩

end Go.Proofs.Ytngonpiiehmlaab
