/- Hidden threads: the program. -/
import Derived.Test.YtngonpiiehmlaabFU
import Derived.Test.YtngonpiiehmlaabFR
namespace Go.Proofs.Ytngonpiiehmlaab
open Go.RowKit
set_option linter.unusedVariables false

set_option maxHeartbeats 1000000 in
theorem where_hid (p : Nat) (xs : List (Int × Int)) (gl gc : Nat) (u : Value) (B T : Nat) (c : Nat → Bool) (w : World) (h : p ≤ 30) (hp : p = xs.length) (hL : PairsIn 55 w B T u xs) (hT : T ≤ w.heap.size) (hg : goodT xs) (h2 : xs.length ≠ 1) (hl : w.cell? ⟨gl, 0, none⟩ = some u) (hc : ArrAt 76 w gc (colL xs 101)) (hcd : ∀ k, k < p → hidT xs k = c k) :
    Calls Try.prog 52 #[.int .i64 p, .func (.func 53) #[] #[.pointer (some ⟨gl, 0, none⟩), .pointer (some ⟨gc, 0, none⟩)]] w (GivesT w (selT c p)) := by
  have HCD := Lib.hid hcd
  have HL := Lib.hid hL
  have HG := Lib.hid hg
  have H2 := Lib.hid h2
  have SL := Lib.hid hl
  have SC := Lib.hid hc
  have HP := Lib.hid hp
  clear hcd hL hg h2 hl hc hp
  go_enter Try.func52, Try.ntmps52
  go_wp2
  go_loopw [5, 8] (fun u i wr => ∃ k : Nat, k ≤ p ∧ i = .int .i64 k ∧ Ints wr w.heap.size 3 u (selT c k) ∧ Below w.heap.size w wr) (fun _ i _ => p - (intOf i).toNat)
  case atStart => exact ⟨0, by omega, rfl, World.ownsRow_nil _ _ _ _, Below.refl _ _⟩
  case round =>
    obtain ⟨k, hk, rfl, hI, hB⟩ := hrel
    have HI := Lib.hid hI
    have hz := hB.size
    clear hI
    by_cases hlt : k < p
    · have hlen := selT_length c k
      have HL2 := Lib.hid (HL.out.keep (belowSame hB hT))
      have SL2 := Lib.hid ((hB.cell (p := ⟨gl, 0, none⟩) (World.block_lt_of_cell? w _ SL.out)).trans SL.out)
      have SC2 := Lib.hid (SC.out.keep hB)
      cases hcb : c k with
      | true =>
        have HS := Lib.hid (selT_yes c k hcb)
        have HCB := Lib.hid hcb
        clear hcb
        go_wp2_with (first
          | (go_at_call 53; (refine (hidFn_any xs k gl gc u B T true _ HL2.out (by have := HP.out; omega) HG.out H2.out SL2.out SC2.out ((HCD.out k hlt).trans HCB.out)).mono ?_); rintro e w1 ⟨rfl, hb1⟩; have HI1 := Lib.hid (HI.out.later hb1); have hB1 := hB.trans (hb1.mono hz); have hz1 := hB1.size)
          | (at_builtin; refine wpList_append_int rfl _ _ 30 rfl (w.heap.size) 3 Try.underlying30 info_int _ _ rfl HI1.out (k : Int) rfl (by omega) (by omega) ?_; intro v' w' hI' hg'; have hB' := HI1.out.below hB1 hz1 hg'; rw [HS.out] at hI'; have HI' := Lib.hid hI'; clear hI'))
        go_roundw
        case rel => exact ⟨k + 1, by omega, by go_num, HI'.out, hB'⟩
        case measure => simp [intOf]; omega
      | false =>
        have HS := Lib.hid (selT_no c k hcb)
        have HCB := Lib.hid hcb
        clear hcb
        go_wp2_with (first
          | (go_at_call 53; (refine (hidFn_any xs k gl gc u B T false _ HL2.out (by have := HP.out; omega) HG.out H2.out SL2.out SC2.out ((HCD.out k hlt).trans HCB.out)).mono ?_); rintro e w1 ⟨rfl, hb1⟩; have HI1 := Lib.hid (HI.out.later hb1); have hB1 := hB.trans (hb1.mono hz)))
        go_roundw
        case rel => exact ⟨k + 1, by omega, by go_num, by rw [← HS.out]; exact HI1.out, hB1⟩
        case measure => simp [intOf]; omega
    · obtain rfl : k = p := by omega
      go_wp2
      go_ret
      exact ⟨_, rfl, HI.out, hB⟩

set_option maxHeartbeats 1000000 in
set_option maxRecDepth 100000 in
theorem iHiddenThreads_yes (u : Value) (xs : List (Int × Int)) (B T : Nat) (w : World) (h : PairsIn 55 w B T u xs) (hT : T ≤ w.heap.size) (hg : goodT xs) (h2 : xs.length ≠ 1) :
    Calls Try.prog 28 #[u] w (Gives (IntsIn 3) w (selT (hidT xs) xs.length) true) := by
  have HB1 : Hid (Below w.heap.size w (w.alloc (.cells #[u] 26))) := Lib.hid (by go_grown)
  have HU1 := Lib.hid (h.keep (w' := (w.alloc (.cells #[u] 26))) (belowSame HB1.out hT))
  have b0 : (w.alloc (.cells #[u] 26)).cell? ⟨w.heap.size, 0, none⟩ = some u := by go_simp
  have HG := Lib.hid hg
  have H2 := Lib.hid h2
  have hne : ((xs.length : Int) == 1) = false := beq_eq_false_iff_ne.2 (by omega)
  obtain ⟨a1, c1, g1, rfl, _⟩ := h.pairs.view
  have B0 := Lib.hid b0
  have hn30 : xs.length ≤ 30 := hg.1.2
  clear h hg h2 b0
  obtain ⟨L, hL⟩ : ∃ L, colL xs 101 = L := ⟨_, rfl⟩
  have HL := Lib.hid hL
  have hLL : L.length = 101 := by rw [← hL]; exact colL_length xs 101 (by omega)
  obtain ⟨ZL, hZL⟩ : ∃ ZL : List Int, ZL = List.replicate 101 0 := ⟨_, rfl⟩
  have hal := zero_aggC (P := Try.prog) zero_cols
  rw [← hZL] at hal
  have HI : Hid ((Try.prog.info? 76).map (·.size) = some (intCells L).size) := Lib.hid (by rw [intCells_size, hLL]; exact info_cols)
  have HO : Hid ((intCells ZL).size = (intCells L).size) := Lib.hid (by rw [intCells_size, intCells_size, hLL, hZL]; simp)
  have HAo := Lib.hid (intCells_one L)
  clear hL hZL hLL
  go_enter Try.func28, Try.ntmps28
  go_wp2_with (first
    | (go_at_call 39; (with_reducible refine (AreThreads_yes _ _ B T _ HU1.out HG.out).mono ?_); rintro e w1 ⟨rfl, hb1⟩; (have c0 : w1.cell? ⟨w.heap.size, 0, none⟩ = some (.slice a1 xs.length c1) := cellB hb1 (by go_simp)); have HU2 := Lib.hid (HU1.out.keep (belowSame hb1 (by simp; omega))); (have hz1 : w.heap.size < w1.heap.size := by have := hb1.size; simp at this; omega); (have hB1 : Below w.heap.size w w1 := HB1.out.trans (hb1.mono (by simp))); clear hb1)
    | (go_at_call 49; (refine (columnsUnder_any _ xs B T _ HU2.out (by omega) HG.out).mono ?_); rintro e w2 ⟨rfl, hb2⟩; rw [HL.out]; have hz2 := hb2.size; have hB2 := hB1.trans (hb2.mono (by omega)); have HS0 := Lib.hid (heap_alloc_new w2 (.cells (intCells ZL) 76)); have HS := Lib.hid (setRow_heap (w2.alloc (.cells (intCells ZL) 76)) w2.heap.size _ (intCells L) _ _ HS0.out); have HB := Lib.hid (below_setRow (B := w.heap.size) (g := w2.heap.size) (w0 := w) (w := w2.alloc (.cells (intCells ZL) 76)) (hB2.alloc hB2.size _) hB2.size (intCells L)); have HK := Lib.hid (below_setRow (B := w1.heap.size) (g := w2.heap.size) (w0 := w1) (w := w2.alloc (.cells (intCells ZL) 76)) (hb2.alloc hz2 _) hz2 (intCells L)); (have c2 := cellB HK.out c0); have HU3 := Lib.hid (HU2.out.keep (belowSame HK.out (by omega))))
    | (with_reducible refine wpList_store_row rfl 76 (.tmp 4) (.tmp 14) rfl w2.heap.size (intCells L) rfl rfl 76 (intCells ZL) HS0.out HI.out HO.out HAo.out ?_)
    | (go_at_call 52; (refine (where_hid xs.length xs w.heap.size w2.heap.size _ B T (hidT xs) _ hn30 rfl HU3.out (by have := HK.out.size; omega) HG.out H2.out c2 (by rw [HL.out]; exact HS.out) (fun _ _ => rfl)).mono ?_); rintro e w3 ⟨v, rfl, hI, hb3⟩))
  go_ret2
  exact ⟨v, rfl, ⟨hI.mono HB.out.size, fun b hb => (hI.own b hb).2⟩, HB.out.trans (hb3.mono HB.out.size)⟩

set_option maxHeartbeats 1000000 in
theorem iHiddenThreads_no (u : Value) (xs : List (Int × Int)) (B T : Nat) (w : World) (h : PairsIn 55 w B T u xs) (hT : T ≤ w.heap.size) (hb : ¬ (goodT xs ∧ xs.length ≠ 1)) :
    Calls Try.prog 28 #[u] w (Gives (IntsIn 3) w [] false) := by
  have HU := Lib.hid h
  have HB1 : Hid (Below w.heap.size w (w.alloc (.cells #[u] 26))) := Lib.hid (by go_grown)
  have HU1 := Lib.hid (h.keep (w' := (w.alloc (.cells #[u] 26))) (belowSame HB1.out hT))
  obtain ⟨a1, c1, g1, rfl, _⟩ := h.pairs.view
  by_cases hg : goodT xs
  · have HG := Lib.hid hg
    have hone : xs.length = 1 := Classical.byContradiction fun e => hb ⟨hg, e⟩
    have he1 : ((xs.length : Int) == 1) = true := beq_iff_eq.2 (by omega)
    clear h hb hg hone
    go_enter Try.func28, Try.ntmps28
    go_wp2_with (first | (go_at_call 39; (with_reducible refine (AreThreads_yes _ xs B T _ HU1.out HG.out).mono ?_); rintro e w1 ⟨rfl, hb1⟩; (have c0 : w1.cell? ⟨w.heap.size, 0, none⟩ = some (.slice a1 xs.length c1) := cellB hb1 (by go_simp))))
    go_ret2
    exact ⟨_, rfl, IntsIn.nil _ _ _ _, HB1.out.trans (hb1.mono (by simp))⟩
  · have HG := Lib.hid hg
    clear h hb hg
    go_enter Try.func28, Try.ntmps28
    go_wp2_with (first | (go_at_call 39; (with_reducible refine (AreThreads_no _ xs B T _ HU1.out HG.out).mono ?_); rintro e w1 ⟨rfl, hb1⟩; (have c0 : w1.cell? ⟨w.heap.size, 0, none⟩ = some (.slice a1 xs.length c1) := cellB hb1 (by go_simp))))
    go_ret2
    exact ⟨_, rfl, IntsIn.nil _ _ _ _, HB1.out.trans (hb1.mono (by simp))⟩

set_option maxHeartbeats 1000000 in
theorem sHiddenThreads_no (u : Value) (xs : List (Int × Int)) (B T : Nat) (w : World) (h : PairsIn 55 w B T u xs) (hT : T ≤ w.heap.size) (hb : ¬ (goodT xs ∧ xs.length ≠ 1)) :
    Calls Try.prog 27 #[u] w (Gives (IntsIn 3) w [] false) := by
  have HU := Lib.hid h
  have HB1 : Hid (Below w.heap.size w (w.alloc (.cells #[u] 26))) := Lib.hid (by go_grown)
  have HU1 := Lib.hid (h.keep (w' := (w.alloc (.cells #[u] 26))) (belowSame HB1.out hT))
  obtain ⟨a1, c1, g1, rfl, _⟩ := h.pairs.view
  by_cases hg : goodT xs
  · have HG := Lib.hid hg
    have hone : xs.length = 1 := Classical.byContradiction fun e => hb ⟨hg, e⟩
    have he1 : ((xs.length : Int) == 1) = true := beq_iff_eq.2 (by omega)
    clear h hb hg hone
    go_enter Try.func27, Try.ntmps27
    go_wp2_with (first | (go_at_call 35; (with_reducible refine (sgGood_yes _ xs B T _ HU.out HG.out).mono ?_); rintro e w1 ⟨rfl, hb1⟩))
    go_ret2
    exact ⟨_, rfl, IntsIn.nil _ _ _ _, hb1⟩
  · have HG := Lib.hid hg
    clear h hb hg
    go_enter Try.func27, Try.ntmps27
    go_wp2_with (first | (go_at_call 35; (with_reducible refine (sgGood_no _ xs B T _ HU.out HG.out).mono ?_); rintro e w1 ⟨rfl, hb1⟩))
    go_ret2
    exact ⟨_, rfl, IntsIn.nil _ _ _ _, hb1⟩

end Go.Proofs.Ytngonpiiehmlaab
