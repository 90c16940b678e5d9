/- Hidden threads: the closure of the program. -/
import Derived.Test.YtngonpiiehmlaabFT
import Derived.Test.YtngonpiiehmlaabFO
import Derived.Test.YtngonpiiehmlaabUT
import Derived.Deep.RegionHeld3
namespace Go.Proofs.Ytngonpiiehmlaab
open Go.RowKit
set_option linter.unusedVariables false

theorem cells_intC : Try.prog.cellsOf 3 = 1 := by kernel_rfl
theorem info_intC : (Try.prog.info? 3).isSome = true := by kernel_rfl

theorem cols_eql (xs ys : List (Int × Int)) (b : Bool) (hb : decide (colL xs 101 = colL ys 101) = b) (W : World) :
    (binOp .eql 76 (.agg (intCells (colL xs 101))) (.agg (intCells (colL ys 101)))).run Try.prog W = .ok (.bool b) W := by
  obtain ⟨i, hi⟩ := Option.isSome_iff_exists.1 info_intC
  exact (run_eql_ints (P := Try.prog) W Try.underlying76 hi Try.underlying3 cells_intC _ _ (colL_length xs 101 (by omega)) (colL_length ys 101 (by omega)) b
    (by rw [all_getD_eq _ _ 101 (colL_length xs 101 (by omega)) (colL_length ys 101 (by omega)), hb])).1

set_option maxHeartbeats 2000000 in
set_option maxRecDepth 100000 in
theorem hidFn_any (xs : List (Int × Int)) (k gl gc : Nat) (u : Value) (B T : Nat) (r : Bool) (w : World) (h : PairsIn 55 w B T u xs) (hk : k < xs.length) (hg : goodT xs) (h2 : xs.length ≠ 1) (hl : w.cell? ⟨gl, 0, none⟩ = some u) (hc : ArrAt 76 w gc (colL xs 101)) (hr : hidT xs k = r) :
    Calls Try.prog 53 #[.int .i64 k, .pointer (some ⟨gl, 0, none⟩), .pointer (some ⟨gc, 0, none⟩)] w fun e w' => e = .returned (.bool r) ∧ Below w.heap.size w w' := by
  have hn : xs.length ≤ 30 := hg.1.2
  have HGR := Lib.hid (goodT_rest hg k hk h2)
  have hS := h.1.src
  obtain ⟨hlen, ⟨rfl, hn0⟩ | ⟨g, cap, cur, rfl, hB0, hg0, hncap, hcm, _, _⟩⟩ := h.1
  · omega
  unfold maxLen at hcm
  have HS := Lib.hid hS
  have hne := cols_eql (restT xs k) xs r hr
  clear h hg hS hlen hg0 hr
  have hk0 : 0 ≤ (k : Int) := by omega
  have hkn : ¬ (k : Int) < 0 := by omega
  have hkl : (k : Int) < (xs.length : Int) := by omega
  have hk1 : (k : Int) ≤ (cap : Int) := by omega
  have hk2 : (k : Int) + 1 ≤ (xs.length : Int) := by omega
  have hk3 : (xs.length : Int) ≤ (cap : Int) := by omega
  obtain ⟨k1, hk5⟩ : ∃ k1, k1 = k + 1 := ⟨_, rfl⟩
  have hwk : IntKind.i64.wrap ((k : Int) + 1) = (k1 : Int) := by rw [IntKind.wrap_i64]; omega
  have hk6 : (k1 : Int) ≤ (xs.length : Int) := by omega
  have hR : ([xs.take k, xs.drop k1] : List (List (Int × Int))).flatten = restT xs k := by rw [hk5]; simp [restT]
  have HK5 := Lib.hid hk5
  have HR := Lib.hid hR
  have hlf : ([xs.take k, xs.drop k1] : List (List (Int × Int))).flatten.length ≤ 1000000 := by simp; omega
  have hD1 := colL_length (restT xs k) 101 (by omega)
  obtain ⟨cs, hcs⟩ : ∃ cs : List Value, cs = (colL xs 101).map (Value.int .i64) := ⟨_, rfl⟩
  have hci : (Try.prog.info? 76).map (·.size) = some cs.length := by rw [hcs, List.length_map, colL_length xs 101 (by omega)]; exact info_cols
  have hut : Try.prog.underlying 76 = some (.array 101 3) := Try.underlying76
  have hra : w.rangeAt gc 0 cs := fun j v hv => by
    rw [Nat.zero_add, cell_of_row w gc j _ _ (0, 0) hc, intCells, ← hcs, List.getElem?_toArray]
    exact hv
  have hgd := fun (op : BinOp) (a b : Operand) (x y : Array Value) (w : World) => GuardAt.agg (P := Try.prog) (T := 76) (fun (x : Array Value) => x) (by kernel_rfl) op a b x y w
  rw [show intCells (colL xs 101) = cs.toArray by rw [hcs]; rfl] at hne
  obtain ⟨D, hD⟩ : ∃ D, intCells (colL (restT xs k) 101) = D := ⟨_, rfl⟩
  rw [hD] at hne
  have HD := Lib.hid hD
  have zgc := hc.lt
  have zgl := World.block_lt_of_cell? w _ hl
  simp only at zgl
  clear hk5 hR hcs hD hc hD1
  have keepS : ∀ w', Below w.heap.size w w' → Below w.heap.size w w' ∧ w'.cell? ⟨gl, 0, none⟩ = some (.slice (some ⟨g, 0, none⟩) xs.length cap) ∧ w'.rangeAt gc 0 cs := fun w' hb => ⟨hb, cellB hb hl, fun j v hv => (hb.cell (p := ⟨gc, 0 + j, none⟩) zgc).trans (hra j v hv)⟩
  go_enter Try.func53, Try.ntmps53
  go_wp2
  refine wp_region_held_drew (S := fun w' => Below w.heap.size w w' ∧ w'.cell? ⟨gl, 0, none⟩ = some (.slice (some ⟨g, 0, none⟩) xs.length cap) ∧ w'.rangeAt gc 0 cs) (by kernel_rfl) (by (try dsimp only); exact keepS _ (by go_grown)) (fun hHeld => ?_)
  refine wpAnyH_take (i := 0) (v := ?v30) rfl (by kernel_rfl) (by kernel_rfl) (by kernel_rfl) (fun _ _ _ h => h) (Or.inl ⟨by rfl, ?hy30⟩) (by assumption) ?rest30
  case hy30 => (intro w hSw; (try dsimp only at hSw); go_simp; (try with_reducible rfl))
  simp only [Act.put, List.getElem_toArray, List.getElem_cons_zero, List.setIfInBounds_toArray, List.set_cons_zero, List.set_cons_succ]
  refine wpAnyH_take (i := 1) (v := ?v31) rfl (by kernel_rfl) (by kernel_rfl) (by kernel_rfl) (fun _ _ _ h => h) (Or.inl ⟨by rfl, ?hy31⟩) (by assumption) ?rest31
  case hy31 => (intro w hSw; (try dsimp only at hSw); go_simp; (try with_reducible rfl))
  simp only [Act.put, List.getElem_toArray, List.getElem_cons_zero, List.getElem_cons_succ, List.setIfInBounds_toArray, List.set_cons_zero, List.set_cons_succ]
  refine wpAnyH_take (i := 2) (v := ?v32) rfl (by kernel_rfl) (by kernel_rfl) (by kernel_rfl) (fun _ _ _ h => h) (Or.inl ⟨by rfl, ?hy32⟩) (by assumption) ?rest32
  case hy32 => (intro w hSw; (try dsimp only at hSw); go_simp; (try with_reducible rfl))
  simp only [Act.put, List.getElem_toArray, List.getElem_cons_zero, List.getElem_cons_succ, List.setIfInBounds_toArray, List.set_cons_zero, List.set_cons_succ]
  refine wpAnyH_take (i := 3) (v := ?v33) rfl (by kernel_rfl) (by kernel_rfl) (by kernel_rfl) (fun _ _ _ h => h) (Or.inl ⟨by rfl, ?hy33⟩) (by assumption) ?rest33
  case hy33 => (intro w hSw; (try dsimp only at hSw); go_simp; (try with_reducible rfl))
  simp only [Act.put, List.getElem_toArray, List.getElem_cons_zero, List.getElem_cons_succ, List.setIfInBounds_toArray, List.set_cons_zero, List.set_cons_succ]
  refine wpAnyH_take (i := 4) (v := ?v34) rfl (by kernel_rfl) (by kernel_rfl) (by kernel_rfl) (fun _ _ _ h => h) (Or.inl ⟨by rfl, ?hy34⟩) (by assumption) ?rest34
  case hy34 => (intro w hSw; (try dsimp only at hSw); go_simp; (try with_reducible rfl))
  simp only [Act.put, List.getElem_toArray, List.getElem_cons_zero, List.getElem_cons_succ, List.setIfInBounds_toArray, List.set_cons_zero, List.set_cons_succ]
  refine wpAnyH_take (i := 5) (v := ?v35) rfl (by kernel_rfl) (by kernel_rfl) (by kernel_rfl) (fun _ _ _ h => h) (Or.inl ⟨by rfl, ?hy35⟩) (by assumption) ?rest35
  case hy35 => (intro w hSw; (try dsimp only at hSw); go_simp; (try with_reducible rfl))
  simp only [Act.put, List.getElem_toArray, List.getElem_cons_zero, List.getElem_cons_succ, List.setIfInBounds_toArray, List.set_cons_zero, List.set_cons_succ]
  refine wpAnyH_take (i := 6) (v := ?v36) rfl (by kernel_rfl) (by kernel_rfl) (by kernel_rfl) (fun _ _ _ h => h) (Or.inl ⟨by rfl, ?hy36⟩) (by assumption) ?rest36
  case hy36 => (intro w hSw; (try dsimp only at hSw); go_simp; (try with_reducible rfl))
  simp only [Act.put, List.getElem_toArray, List.getElem_cons_zero, List.getElem_cons_succ, List.setIfInBounds_toArray, List.set_cons_zero, List.set_cons_succ]
  refine wpAnyH_take (i := 10) (v := .agg cs.toArray) rfl (by kernel_rfl) (by kernel_rfl) (by kernel_rfl) (fun _ _ _ h => h) (yieldsIf_load_mid (by rfl) 76 (.tmp 2) rfl gc 0 rfl cs _ (fun w h => h.2.2) hut rfl hci) (by assumption) ?_
  simp only [Act.put, List.getElem_toArray, List.getElem_cons_zero, List.getElem_cons_succ, List.setIfInBounds_toArray, List.set_cons_zero, List.set_cons_succ]
  refine wpAnyH_ready (rs := [7]) (by kernel_rfl) (by simp) ?_
  refine AllReadyH.cons rfl (fun K hK => ?_) AllReadyH.nil
  simp only [List.getElem_toArray, List.getElem_cons_zero, List.getElem_cons_succ]
  go_simp
  refine hK.out _ _ (by (try dsimp only); exact keepS _ (by go_grown)) (fun hHeld => ?_)
  clear hK K
  refine wpAnyH_ready (rs := [8]) (by kernel_rfl) (by simp) ?_
  refine AllReadyH.cons rfl (fun K hK => ?_) AllReadyH.nil
  simp only [List.getElem_toArray, List.getElem_cons_zero, List.getElem_cons_succ]
  go_simp
  go_at_call 54; refine (concat_any w.heap.size 2 [(.slice (some ⟨g, 0, none⟩) k cap), (.slice (if cap = k1 then some ⟨g, 0, none⟩ else some ⟨g, k1 * 2, none⟩) (xs.length - k1) (cap - k1))] [xs.take k, xs.drop k1] _ rfl (by omega) (cells_of (cs := #[(.slice (some ⟨g, 0, none⟩) k cap), (.slice (if cap = k1 then some ⟨g, 0, none⟩ else some ⟨g, k1 * 2, none⟩) (xs.length - k1) (cap - k1))]) (t := 26) (fr := (0, 0)) (by exact heap_alloc_new w _)) ?_ hlf).mono ?_; · intro i hi; match i, hi with | 0, _ => exact src_take (xs := xs) (k := k) (HS.out.later hHeld.1) (by omega) | 1, _ => exact src_drop_if (xs := xs) (k := k1) (HS.out.later hHeld.1) (by omega) (by omega)
  rintro e w2 ⟨v2, rfl, hI2, hb2⟩; rw [HR.out] at hI2; obtain ⟨a9, c9, g9, rfl, _⟩ := hI2.pairs.view
  dsimp only
  refine hK.out _ _ (by (try dsimp only); exact keepS _ (hHeld.1.trans (hb2.mono hHeld.1.size))) (fun hHeld => ?_)
  clear hK K
  refine wpAnyH_ready (rs := [9]) (by kernel_rfl) (by simp) ?_
  refine AllReadyH.cons rfl (fun K hK => ?_) AllReadyH.nil
  simp only [List.getElem_toArray, List.getElem_cons_zero, List.getElem_cons_succ]
  go_simp
  go_at_call 49; refine (columnsUnder_any _ (restT xs k) _ _ _ hI2 (Nat.le_refl _) HGR.out).mono ?_
  rintro e w3 ⟨rfl, hb3⟩; rw [HD.out]
  dsimp only
  refine hK.out _ _ (by (try dsimp only); exact keepS _ (hHeld.1.trans (hb3.mono hHeld.1.size))) (fun hHeld => ?_)
  clear hK K
  refine wpAnyH_take (i := 11) (v := ?v37) rfl (by kernel_rfl) (by kernel_rfl) (by kernel_rfl) (fun _ _ _ h => h) (Or.inl ⟨by rfl, ?hy37⟩) (by assumption) ?rest37
  case hy37 => (intro w hSw; (try dsimp only at hSw); go_simp; (try with_reducible rfl))
  simp only [Act.put, List.getElem_toArray, List.getElem_cons_zero, List.getElem_cons_succ, List.setIfInBounds_toArray, List.set_cons_zero, List.set_cons_succ]
  refine wpAnyH_take (i := 12) (v := ?v38) rfl (by kernel_rfl) (by kernel_rfl) (by kernel_rfl) (fun _ _ _ h => h) (Or.inl ⟨by rfl, ?hy38⟩) (by assumption) ?rest38
  case hy38 => (intro w hSw; (try dsimp only at hSw); go_simp; (try with_reducible rfl))
  simp only [Act.put, List.getElem_toArray, List.getElem_cons_zero, List.getElem_cons_succ, List.setIfInBounds_toArray, List.set_cons_zero, List.set_cons_succ]
  refine wpAnyH_done (by kernel_rfl) ?_ _
  go_wp2
  all_goals
    go_ret
    exact ⟨rfl, hHeld.1⟩

end Go.Proofs.Ytngonpiiehmlaab
