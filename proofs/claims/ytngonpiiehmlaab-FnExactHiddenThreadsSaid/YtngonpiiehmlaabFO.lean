/- Points under threads, counted by columns: the program's array. -/
import Derived.Test.YtngonpiiehmlaabFM
import Derived.Test.YtngonpiiehmlaabFN
import Derived.Deep.WholeRow
import Derived.Laws.CopyOwn
namespace Go.Proofs.Ytngonpiiehmlaab
open Go.RowKit
set_option linter.unusedVariables false

theorem info_cols : (Try.prog.info? 76).map (·.size) = some 101 := by kernel_rfl

theorem zero_cols : (Try.prog.info? 76).map (·.zero) = some (some (.agg (intCells (List.replicate 101 0)))) := by kernel_rfl

theorem zero_aggC {P : Program} {t : TypeId} {cs : Array Value} (hz : (P.info? t).map (·.zero) = some (some (.agg cs))) (W : World) :
    (zeroValue t).run P W = .ok (.agg cs) W := by
  obtain ⟨i, hi, hz⟩ := Option.map_eq_some_iff.1 hz
  simp [zeroValue, typeInfo, Sem.run_bind, hi, hz]

/-- What is told of one place: a column's number. -/
theorem hi_col {xs : List (Int × Int)} (hg : goodT xs) {x p q r : Int} {ok : Bool} (hx : 0 ≤ x) (ho : HiOut xs x p q r ok) :
    (ok = false ∧ colT x xs = 0) ∨ ∃ Q R : Nat, q = Q ∧ r = R ∧ ok = true ∧ 1 ≤ R ∧ Q / R + 1 = colT x xs ∧ (Q : Int) / (R : Int) = ((Q / R : Nat) : Int) ∧ Q / R ≤ 100 := by
  rcases ho with ⟨h, _, _, _, h5⟩ | ⟨b, hb, _, h2, h3, h4⟩
  · exact .inl ⟨h5, colT_none h⟩
  · have h6 := colT_best hg hb
    have h7 := colT_le hg.mem hx
    refine .inr ⟨_, _, h2, h3, h4, ?_, h6.symm, (Int.natCast_ediv _ _).symm, by omega⟩
    exact Nat.div_pos (Nat.le_of_dvd (hD_pos hg b hb.1) (Nat.gcd_dvd_right _ _)) (Nat.gcd_pos_of_pos_right _ (hD_pos hg b hb.1))

set_option maxHeartbeats 4000000 in
set_option maxRecDepth 100000 in
theorem columnsUnder_any (u : Value) (xs : List (Int × Int)) (B T : Nat) (w : World) (h : PairsIn 55 w B T u xs) (hT : T ≤ w.heap.size) (hg : goodT xs) :
    Calls Try.prog 49 #[u] w fun e w' => e = .returned (.agg (intCells (colL xs 101))) ∧ Below w.heap.size w w' := by
  have HG := Lib.hid hg
  have HU := Lib.hid h
  obtain ⟨a1, c1, g1, rfl, _⟩ := h.pairs.view
  obtain ⟨ZL, hZL⟩ : ∃ ZL : List Int, ZL = List.replicate 101 0 := ⟨_, rfl⟩
  have hal := zero_aggC (P := Try.prog) zero_cols
  rw [← hZL] at hal
  have HZL := Lib.hid hZL
  clear h hg hZL
  go_enter Try.func49, Try.ntmps49
  go_wp2
  have Z0 : ArrAt 76 ((w.alloc (.cells (intCells ZL) 76)).alloc (.cells (intCells ZL) 76)) w.heap.size ZL := heap_alloc2_old w _ _
  have Z1 : ArrAt 76 ((w.alloc (.cells (intCells ZL) 76)).alloc (.cells (intCells ZL) 76)) (w.heap.size + 1) (colL xs 0) := by rw [colL_zero, ← HZL.out]; exact heap_alloc2_new w _ _
  have HZ0 := Lib.hid Z0
  have HZ1 := Lib.hid Z1
  clear Z0 Z1
  generalize hZZ : intCells (List.replicate 101 0) = ZZ at *
  go_loopw [8] (fun i wr => ∃ k : Nat, k ≤ 101 ∧ i = .int .i64 k ∧ ArrAt 76 wr (w.heap.size + 1) (colL xs k) ∧ ArrAt 76 wr w.heap.size ZL ∧ Below w.heap.size w wr ∧ w.heap.size + 2 ≤ wr.heap.size) (fun i _ => 101 - (intOf i).toNat)
  case atStart => exact ⟨0, by omega, rfl, HZ1.out, HZ0.out, by go_grown, by simp⟩
  case round =>
    obtain ⟨k, hk, rfl, hM, hZ, hB, hz⟩ := hrel
    by_cases hlt : k < 101
    · obtain ⟨p, q, r, ok, ho⟩ : ∃ p q r ok, HiOut xs (k : Int) p q r ok := by
        rcases best_or HG.out (k : Int) xs.length (Nat.le_refl _) with h | ⟨b, h⟩
        · exact ⟨0, 0, 0, false, .inl ⟨h, rfl, rfl, rfl, rfl⟩⟩
        · exact ⟨_, _, _, _, .inr ⟨b, h, rfl, rfl, rfl, rfl⟩⟩
      have HO := Lib.hid ho
      have HUr := Lib.hid (HU.out.keep (belowSame hB hT))
      have k2 : (k : Int) < 101 := by omega
      rcases hi_col HG.out (by omega) ho with ⟨rfl, h0⟩ | ⟨Q, R, rfl, rfl, rfl, hR, hQR, hdv, hq⟩
      · have HS := Lib.hid (show ArrAt 76 wr (w.heap.size + 1) (colL xs (k + 1)) by rw [← colL_skip xs k hlt h0]; exact hM)
        have HZ := Lib.hid hZ
        clear ho h0 hM hZ
        go_wp2_with (first | (go_at_call 41; (refine (highestAt_out _ xs B T _ HUr.out (by omega) k _ _ _ _ HG.out (by omega) HO.out).mono ?_); rintro e w2 ⟨rfl, hb2⟩; have hz2 := hb2.size; have hB2 := hB.trans (hb2.mono (by omega)); have HS2 := Lib.hid (HS.out.keep hb2); have HZ2 := Lib.hid (HZ.out.keep hb2)))
        go_roundw
        case rel => exact ⟨k + 1, by omega, by go_num, HS2.out.alloc _, HZ2.out.alloc _, by go_grown, by simp; omega⟩
        case measure => simp [intOf]; omega
      · obtain ⟨D, hD⟩ : ∃ D, Q / R = D := ⟨_, rfl⟩
        rw [hD] at hdv hq hQR
        have w1 : IntKind.i64.wrap (D : Int) = D := by rw [IntKind.wrap_i64]; omega
        have w2' : IntKind.i64.wrap ((D : Int) + 1) = ((D + 1 : Nat) : Int) := by rw [IntKind.wrap_i64]; omega
        have r0 : ¬ R = 0 := by omega
        have HM := Lib.hid hM
        have HZ := Lib.hid hZ
        have HQR := Lib.hid hQR
        have d0 := hM.cell k (by rw [colL_length xs k hk]; omega)
        have f0 := hM.frozen k
        have k1 : 0 ≤ (k : Int) := by omega
        generalize (colL xs k).getD k 0 = old at d0
        clear ho hM hZ hD hQR
        go_wp2_with (first | (go_at_call 41; (refine (highestAt_out _ xs B T _ HUr.out (by omega) k _ _ _ _ HG.out (by omega) HO.out).mono ?_); rintro e w2 ⟨rfl, hb2⟩; have hz2 := hb2.size; have hB2 := hB.trans (hb2.mono (by omega)); have HM2 := Lib.hid (HM.out.keep hb2); have HZ2 := Lib.hid (HZ.out.keep hb2); (have d1 := cellB hb2 d0); (have f1 := (hb2.frozen (p := ⟨w.heap.size + 1, k, none⟩) (by show w.heap.size + 1 < _; omega)).trans f0); (have hbw : Below w2.heap.size w2 (w2.alloc (.cells #[.int .i64 (Q : Int), .int .i64 (R : Int)] 62)) := by go_grown); (have d2 := cellB hbw d1); (have f2 := (hbw.frozen (p := ⟨w.heap.size + 1, k, none⟩) (by show w.heap.size + 1 < _; omega)).trans f1); clear hbw; (have n1 : ¬ w2.heap.size = w.heap.size + 1 := by omega); (have n2 : ¬ w.heap.size + 1 = w2.heap.size := by omega)))
        go_roundw
        case rel => exact ⟨k + 1, by omega, by go_num, by rw [← colL_set xs k hlt, ← HQR.out]; exact (HM2.out.alloc _).stored k _, (HZ2.out.alloc _).other _ (by omega), by go_grown, by simp; omega⟩
        case measure => simp [intOf]; omega
    · obtain rfl : k = 101 := by omega
      have HGG : Hid (wr.heap[w.heap.size + 1]? = some (.cells (intCells (colL xs 101)) 76 (0, 0))) := Lib.hid hM
      have HG0 : Hid (wr.heap[w.heap.size]? = some (.cells (intCells ZL) 76 (0, 0))) := Lib.hid hZ
      have hl := colL_length xs 101 (by omega)
      have HI : Hid ((Try.prog.info? 76).map (·.size) = some (intCells (colL xs 101)).size) := Lib.hid (by rw [intCells_size, hl]; exact info_cols)
      have HO : Hid ((intCells ZL).size = (intCells (colL xs 101)).size) := Lib.hid (by rw [intCells_size, intCells_size, hl, HZL.out]; simp)
      have HAo := Lib.hid (intCells_one (colL xs 101))
      have HR := Lib.hid (setRow_heap wr w.heap.size _ (intCells (colL xs 101)) _ _ HG0.out)
      have HB := Lib.hid (below_setRow (B := w.heap.size) (g := w.heap.size) (w0 := w) (w := wr) hB (Nat.le_refl _) (intCells (colL xs 101)))
      clear hal hM hZ
      generalize hC : intCells (colL xs 101) = C at HGG HI HO HAo HR HB ⊢
      have HCC := Lib.hid hC
      clear hC
      generalize intCells ZL = ZZ at HG0 HO
      go_wp2_with (first
        | (with_reducible refine wpList_load_row rfl 76 (.tmp 3) rfl (w.heap.size + 1) rfl 76 C (0, 0) (.array 101 3) HGG.out Try.underlying76 rfl HI.out ?_)
        | (with_reducible refine wpList_store_row rfl 76 (.tmp 2) (.tmp 28) rfl w.heap.size C rfl rfl 76 ZZ HG0.out HI.out HO.out HAo.out ?_))
      exact bodyPost_ret (results_cell_row (P := Try.prog) (fn := Try.f49) (p := 2) (ty := 76) rfl _ _ w.heap.size _ _ _ (.array 101 3) rfl HR.out Try.underlying76 rfl HI.out) rfl ⟨by rw [HCC.out], HB.out⟩

end Go.Proofs.Ytngonpiiehmlaab
