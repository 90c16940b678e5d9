/- The pairs of chords that cross: the walks. -/
import Derived.Test.YtnldnjgnpdicnaaK5
namespace Go.Proofs.Ytnldnjgnpdicnaa
open Go.RowKit

set_option maxHeartbeats 1000000 in
theorem cdPairs_any (u : Value) (xs : List (Int × Int)) (B T : Nat) (w : World) (h : PairsIn 52 w B T u xs) (hc : ∀ k, k < xs.length → (xs.getD k (0, 0)).1 < (xs.getD k (0, 0)).2) (hn : xs.length ≤ 60) :
    Calls Try.prog 129 #[u] w fun e w' => ∃ v, e = .returned v ∧ RowsIn 33 3 w' w.heap.size w'.heap.size v (allP xs xs.length) ∧ Below w.heap.size w w' := by
  obtain ⟨a1, c1, g1, rfl, ha1, hmm, hx1, hy1⟩ := h.pairs.view
  have X := Lib.hid hx1
  have Y := Lib.hid hy1
  have HA := Lib.hid ha1
  have HC := Lib.hid hc
  clear h ha1 hx1 hy1 hmm hc
  go_enter Try.func129, Try.ntmps129
  go_wp2
  go_loopw [3, 9] (fun r i wr => ∃ k : Nat, k ≤ xs.length ∧ i = .int .i64 k ∧ RowsIn 33 3 wr w.heap.size wr.heap.size r (allP xs k) ∧ Below w.heap.size w wr) (fun _ i _ => xs.length - (intOf i).toNat)
  case atStart => exact ⟨0, by omega, rfl, RowsIn.nil _ _ _ _ _, by go_grown⟩
  case round =>
    obtain ⟨wo, rfl⟩ : ∃ z, z = wr := ⟨wr, rfl⟩
    obtain ⟨i, hi, rfl, hR, hB⟩ := hrel
    have hz := hB.size
    have HR := Lib.hid hR
    clear hR
    by_cases hlt : i < xs.length
    · obtain rfl := HA.out (by omega)
      have hxy := HC.out i hlt
      have cx : wo.cell? ⟨g1, i * 2, none⟩ = _ := (hB.cell (p := ⟨g1, i * 2, none⟩) (World.block_lt_of_cell? w _ (X.out i hlt))).trans (X.out i hlt)
      have cy : wo.cell? ⟨g1, i * 2 + 1, none⟩ = _ := (hB.cell (p := ⟨g1, i * 2 + 1, none⟩) (World.block_lt_of_cell? w _ (Y.out i hlt))).trans (Y.out i hlt)
      obtain ⟨x, hx⟩ : ∃ x, x = (xs.getD i (0, 0)).1 := ⟨_, rfl⟩
      obtain ⟨y, hy⟩ : ∃ y, y = (xs.getD i (0, 0)).2 := ⟨_, rfl⟩
      rw [← hx] at cx hxy
      rw [← hy] at cy hxy
      have HX := Lib.hid hx
      have HY := Lib.hid hy
      have HXY := Lib.hid hxy
      clear hx hy hxy
      have hw1 : IntKind.i64.wrap ((i : Int) + 1) = ((i + 1 : Nat) : Int) := by rw [IntKind.wrap_i64]; omega
      go_wp2
      have hbox : (wo.alloc (.cells #[.int .i64 x, .int .i64 y] 52)).heap[wo.heap.size]? = some (.cells #[.int .i64 x, .int .i64 y] 52 (0, 0)) := heap_alloc_new wo _
      have HR0 := Lib.hid (HR.out.keep (w' := wo.alloc (.cells #[.int .i64 x, .int .i64 y] 52)) (belowSame (by go_grown) (Nat.le_refl _)))
      have HBOX := Lib.hid hbox
      clear hbox
      go_loopw [3, 6] (fun r j wr => ∃ k : Nat, i + 1 ≤ k ∧ k ≤ xs.length ∧ j = .int .i64 k ∧ RowsIn 33 3 wr w.heap.size wr.heap.size r (allP xs i ++ rowP xs i k) ∧ Below w.heap.size w wr ∧ wr.heap[wo.heap.size]? = some (.cells #[.int .i64 x, .int .i64 y] 52 (0, 0))) (fun _ j _ => xs.length - (intOf j).toNat)
      case atStart => exact ⟨i + 1, by omega, by omega, by simp, by rw [rowP_none xs i (i + 1) (Nat.le_refl _), List.append_nil]; obtain ⟨vs, hv⟩ := HR0.out; exact ⟨vs, hv.wider (by simp)⟩, by go_grown, HBOX.out⟩
      case round =>
        obtain ⟨j, hij, hj, rfl, hRj, hBj, hbx⟩ := hrel
        obtain ⟨vs, hRj⟩ := hRj
        have hzj := hBj.size
        have HRj := Lib.hid hRj
        have HBX := Lib.hid hbx
        have hwz : wo.heap.size < wr.heap.size := (Array.getElem?_eq_some_iff.1 hbx).1
        have b0 : wr.cell? ⟨wo.heap.size, 0, none⟩ = some (.int .i64 x) := cell_of_row _ _ 0 _ _ _ hbx
        have b1 : wr.cell? ⟨wo.heap.size, 1, none⟩ = some (.int .i64 y) := cell_of_row _ _ 1 _ _ _ hbx
        clear hRj hbx cx cy HBOX HR0 HR
        by_cases hjlt : j < xs.length
        · have hxy2 := HC.out j hjlt
          have dx : wr.cell? ⟨g1, j * 2, none⟩ = _ := (hBj.cell (p := ⟨g1, j * 2, none⟩) (World.block_lt_of_cell? w _ (X.out j hjlt))).trans (X.out j hjlt)
          have dy : wr.cell? ⟨g1, j * 2 + 1, none⟩ = _ := (hBj.cell (p := ⟨g1, j * 2 + 1, none⟩) (World.block_lt_of_cell? w _ (Y.out j hjlt))).trans (Y.out j hjlt)
          obtain ⟨x2, hx2⟩ : ∃ x, x = (xs.getD j (0, 0)).1 := ⟨_, rfl⟩
          obtain ⟨y2, hy2⟩ : ∃ y, y = (xs.getD j (0, 0)).2 := ⟨_, rfl⟩
          rw [← hx2] at dx hxy2
          rw [← hy2] at dy hxy2
          have HXY2 := Lib.hid hxy2
          have hcp : crossP (xs.getD i (0, 0)) (xs.getD j (0, 0)) = crossB x y x2 y2 := by unfold crossP; rw [HX.out, HY.out, hx2, hy2]
          clear hxy2 hx2 hy2
          have hi1 : 0 ≤ (j : Int) := by omega
          have hi2 : (j : Int) < (xs.length : Int) := by omega
          have hlen : (allP xs i ++ rowP xs i j).length ≤ 3600 := by
            have h1 := allP_length xs i
            have h2 := rowP_length xs i j
            have h3 : i * xs.length ≤ 59 * 60 := Nat.mul_le_mul (by omega) hn
            rw [List.length_append]
            omega
          have hlv := HRj.out.len
          cases hcr : crossB x y x2 y2 with
          | true =>
            have HY2 := Lib.hid (rowP_yes xs i j (by omega) (hcp.trans hcr))
            have HCR := Lib.hid hcr
            clear hcp hcr
            go_wp2
            go_region_held3 (fun w' => w'.cell? ⟨wo.heap.size, 0, none⟩ = some (.int .i64 x) ∧ w'.cell? ⟨wo.heap.size, 1, none⟩ = some (.int .i64 y) ∧ w'.cell? ⟨g1, j * 2, none⟩ = some (.int .i64 x2) ∧ w'.cell? ⟨g1, j * 2 + 1, none⟩ = some (.int .i64 y2)) (go_keep)
              (first | (go_at_call 85; (with_reducible refine (srCross_any x y x2 y2 _ HXY.out HXY2.out).mono ?_); rintro e w1 ⟨rfl, hb⟩; rw [HCR.out]; (have c0 : w1.cell? ⟨wo.heap.size, 0, none⟩ = some (.int .i64 x) := cellB hb (by first | assumption | go_simp)); (have c1 : w1.cell? ⟨wo.heap.size, 1, none⟩ = some (.int .i64 y) := cellB hb (by first | assumption | go_simp)); (have c2 : w1.cell? ⟨g1, j * 2, none⟩ = some (.int .i64 x2) := cellB hb (by first | assumption | go_simp)); (have c3 : w1.cell? ⟨g1, j * 2 + 1, none⟩ = some (.int .i64 y2) := cellB hb (by first | assumption | go_simp)); (have HBW : Hid (Below wr.heap.size wr w1) := Lib.hid (Below.trans (by go_grown) (hb.mono (by first | omega | (simp; done) | (simp; omega))))); clear hb))
            have hbw := HBW.out
            have hz1 := hbw.size
            have hB1 := hBj.trans (hbw.mono hzj)
            have hbx1 : w1.heap[wo.heap.size]? = some (.cells #[.int .i64 x, .int .i64 y] 52 (0, 0)) := (hbw.block _ hwz).trans HBX.out
            have hRa := HRj.out.keep (belowSame hbw (Nat.le_refl _))
            have hRb := hRa.keep (belowSame (w := w1) (w' := w1.alloc (.cells #[.int .i64 (i : Int), .int .i64 (j : Int)] 3)) (by go_grown) hz1)
            have hu := (Ints.boxed w1 w1.heap.size 3 [(i : Int), (j : Int)] (Nat.le_refl _) (by simp)).inn
            have HU := Lib.hid hu
            have HRB := Lib.hid hRb
            have HB1 := Lib.hid hB1
            have HBX1 := Lib.hid hbx1
            clear hu hRa hRb hB1 hbx1 hbw c0 c1 c2 c3
            go_wp2_with (at_builtin; refine wpList_append_val rfl _ _ 69 rfl w.heap.size 33 (.slice none 0 0) 24 Try.underlying69 info_ints (by decide) (by decide) _ vs rfl HRB.out.outer _ rfl (by rw [World.size_alloc]; rfl) (by omega) (by simp; omega) ?_; intro v' w4 ho hg; have hn4 := hg.size; have HN := Lib.hid ((HRB.out.wider (T' := w1.heap.size) (by omega)).more (by decide) HU.out (by omega) (by simp) hn4 ho hg); have HOV := Lib.hid HRB.out.outer.lt; have HG := Lib.hid hg; clear ho hg)
            have hne := box_apart HRB.out.outer (b := wo.heap.size) ((show (w1.alloc (.cells #[.int .i64 (i : Int), .int .i64 (j : Int)] 3)).heap[wo.heap.size]? = w1.heap[wo.heap.size]? from heap_alloc_old _ _ (by omega)).trans HBX1.out) (by decide)
            have hbx4 : w4.heap[wo.heap.size]? = some (.cells #[.int .i64 x, .int .i64 y] 52 (0, 0)) := by
              rw [HG.out.block _ (by simp; omega) (fun e => hne e.symm)]
              exact (heap_alloc_old _ _ (by omega)).trans HBX1.out
            have hB4 : Below w.heap.size w w4 := Below.trans (show Below w.heap.size w (w1.alloc (.cells #[.int .i64 (i : Int), .int .i64 (j : Int)] 3)) from HB1.out.trans ((Below.refl _ _).alloc (by omega) _)) (Only.below (Only.of_grown (B := w.heap.size) (T := (w1.alloc (.cells #[.int .i64 (i : Int), .int .i64 (j : Int)] 3)).heap.size) HG.out HOV.out) (Nat.le_refl _) (by simp; omega))
            go_roundw
            case rel => exact ⟨j + 1, by omega, by omega, by go_num, by rw [HY2.out, ← List.append_assoc]; exact ⟨_, HN.out⟩, hB4, hbx4⟩
            case measure => simp [intOf]; omega
          | false =>
            have HY2 := Lib.hid (rowP_no xs i j (hcp.trans hcr))
            have HCR := Lib.hid hcr
            clear hcp hcr
            go_wp2
            go_region_held3 (fun w' => w'.cell? ⟨wo.heap.size, 0, none⟩ = some (.int .i64 x) ∧ w'.cell? ⟨wo.heap.size, 1, none⟩ = some (.int .i64 y) ∧ w'.cell? ⟨g1, j * 2, none⟩ = some (.int .i64 x2) ∧ w'.cell? ⟨g1, j * 2 + 1, none⟩ = some (.int .i64 y2)) (go_keep)
              (first | (go_at_call 85; (with_reducible refine (srCross_any x y x2 y2 _ HXY.out HXY2.out).mono ?_); rintro e w1 ⟨rfl, hb⟩; rw [HCR.out]; (have c0 : w1.cell? ⟨wo.heap.size, 0, none⟩ = some (.int .i64 x) := cellB hb (by first | assumption | go_simp)); (have c1 : w1.cell? ⟨wo.heap.size, 1, none⟩ = some (.int .i64 y) := cellB hb (by first | assumption | go_simp)); (have c2 : w1.cell? ⟨g1, j * 2, none⟩ = some (.int .i64 x2) := cellB hb (by first | assumption | go_simp)); (have c3 : w1.cell? ⟨g1, j * 2 + 1, none⟩ = some (.int .i64 y2) := cellB hb (by first | assumption | go_simp)); (have HBW : Hid (Below wr.heap.size wr w1) := Lib.hid (Below.trans (by go_grown) (hb.mono (by first | omega | (simp; done) | (simp; omega))))); clear hb))
            have hbw := HBW.out
            have hz1 := hbw.size
            have hB1 := hBj.trans (hbw.mono hzj)
            have hbx1 : w1.heap[wo.heap.size]? = some (.cells #[.int .i64 x, .int .i64 y] 52 (0, 0)) := (hbw.block _ hwz).trans HBX.out
            have hRa := HRj.out.keep (belowSame hbw (Nat.le_refl _))
            clear c0 c1 c2 c3
            go_wp2
            go_roundw
            case rel => exact ⟨j + 1, by omega, by omega, by go_num, by rw [HY2.out]; exact ⟨_, hRa.wider hz1⟩, hB1, hbx1⟩
            case measure => simp [intOf]; omega
        · obtain rfl : j = xs.length := by omega
          go_wp2
          go_roundw
          case rel => exact ⟨i + 1, by omega, by go_num, ⟨vs, HRj.out⟩, hBj⟩
          case measure => simp [intOf]; omega
    · obtain rfl : i = xs.length := by omega
      go_wp2
      go_ret
      exact ⟨_, rfl, HR.out, hB⟩

set_option maxHeartbeats 1000000 in
theorem pairsCrossing_any (u : Value) (xs : List (Int × Int)) (B T : Nat) (w : World) (h : PairsIn 52 w B T u xs) (hc : ∀ k, k < xs.length → (xs.getD k (0, 0)).1 < (xs.getD k (0, 0)).2) (hn : xs.length ≤ 60) :
    Calls Try.prog 149 #[u] w fun e w' => ∃ v, e = .returned v ∧ RowsIn 33 3 w' w.heap.size w'.heap.size v (allP xs xs.length) ∧ Below w.heap.size w w' := by
  obtain ⟨a1, c1, g1, rfl, ha1, hmm, hx1, hy1⟩ := h.pairs.view
  have X := Lib.hid hx1
  have Y := Lib.hid hy1
  have HA := Lib.hid ha1
  have HC := Lib.hid hc
  clear h ha1 hx1 hy1 hmm hc
  go_enter Try.func149, Try.ntmps149
  go_wp2
  go_loopw [3, 9] (fun r i wr => ∃ k : Nat, k ≤ xs.length ∧ i = .int .i64 k ∧ RowsIn 33 3 wr w.heap.size wr.heap.size r (allP xs k) ∧ Below w.heap.size w wr) (fun _ i _ => xs.length - (intOf i).toNat)
  case atStart => exact ⟨0, by omega, rfl, RowsIn.nil _ _ _ _ _, by go_grown⟩
  case round =>
    obtain ⟨wo, rfl⟩ : ∃ z, z = wr := ⟨wr, rfl⟩
    obtain ⟨i, hi, rfl, hR, hB⟩ := hrel
    have hz := hB.size
    have HR := Lib.hid hR
    clear hR
    by_cases hlt : i < xs.length
    · obtain rfl := HA.out (by omega)
      have hxy := HC.out i hlt
      have cx : wo.cell? ⟨g1, i * 2, none⟩ = _ := (hB.cell (p := ⟨g1, i * 2, none⟩) (World.block_lt_of_cell? w _ (X.out i hlt))).trans (X.out i hlt)
      have cy : wo.cell? ⟨g1, i * 2 + 1, none⟩ = _ := (hB.cell (p := ⟨g1, i * 2 + 1, none⟩) (World.block_lt_of_cell? w _ (Y.out i hlt))).trans (Y.out i hlt)
      obtain ⟨x, hx⟩ : ∃ x, x = (xs.getD i (0, 0)).1 := ⟨_, rfl⟩
      obtain ⟨y, hy⟩ : ∃ y, y = (xs.getD i (0, 0)).2 := ⟨_, rfl⟩
      rw [← hx] at cx hxy
      rw [← hy] at cy hxy
      have HX := Lib.hid hx
      have HY := Lib.hid hy
      have HXY := Lib.hid hxy
      clear hx hy hxy
      have hw1 : IntKind.i64.wrap ((i : Int) + 1) = ((i + 1 : Nat) : Int) := by rw [IntKind.wrap_i64]; omega
      go_wp2
      have hbox : (wo.alloc (.cells #[.int .i64 x, .int .i64 y] 52)).heap[wo.heap.size]? = some (.cells #[.int .i64 x, .int .i64 y] 52 (0, 0)) := heap_alloc_new wo _
      have HR0 := Lib.hid (HR.out.keep (w' := wo.alloc (.cells #[.int .i64 x, .int .i64 y] 52)) (belowSame (by go_grown) (Nat.le_refl _)))
      have HBOX := Lib.hid hbox
      clear hbox
      go_loopw [3, 6] (fun r j wr => ∃ k : Nat, i + 1 ≤ k ∧ k ≤ xs.length ∧ j = .int .i64 k ∧ RowsIn 33 3 wr w.heap.size wr.heap.size r (allP xs i ++ rowP xs i k) ∧ Below w.heap.size w wr ∧ wr.heap[wo.heap.size]? = some (.cells #[.int .i64 x, .int .i64 y] 52 (0, 0))) (fun _ j _ => xs.length - (intOf j).toNat)
      case atStart => exact ⟨i + 1, by omega, by omega, by simp, by rw [rowP_none xs i (i + 1) (Nat.le_refl _), List.append_nil]; obtain ⟨vs, hv⟩ := HR0.out; exact ⟨vs, hv.wider (by simp)⟩, by go_grown, HBOX.out⟩
      case round =>
        obtain ⟨j, hij, hj, rfl, hRj, hBj, hbx⟩ := hrel
        obtain ⟨vs, hRj⟩ := hRj
        have hzj := hBj.size
        have HRj := Lib.hid hRj
        have HBX := Lib.hid hbx
        have hwz : wo.heap.size < wr.heap.size := (Array.getElem?_eq_some_iff.1 hbx).1
        have b0 : wr.cell? ⟨wo.heap.size, 0, none⟩ = some (.int .i64 x) := cell_of_row _ _ 0 _ _ _ hbx
        have b1 : wr.cell? ⟨wo.heap.size, 1, none⟩ = some (.int .i64 y) := cell_of_row _ _ 1 _ _ _ hbx
        clear hRj hbx cx cy HBOX HR0 HR
        by_cases hjlt : j < xs.length
        · have hxy2 := HC.out j hjlt
          have dx : wr.cell? ⟨g1, j * 2, none⟩ = _ := (hBj.cell (p := ⟨g1, j * 2, none⟩) (World.block_lt_of_cell? w _ (X.out j hjlt))).trans (X.out j hjlt)
          have dy : wr.cell? ⟨g1, j * 2 + 1, none⟩ = _ := (hBj.cell (p := ⟨g1, j * 2 + 1, none⟩) (World.block_lt_of_cell? w _ (Y.out j hjlt))).trans (Y.out j hjlt)
          obtain ⟨x2, hx2⟩ : ∃ x, x = (xs.getD j (0, 0)).1 := ⟨_, rfl⟩
          obtain ⟨y2, hy2⟩ : ∃ y, y = (xs.getD j (0, 0)).2 := ⟨_, rfl⟩
          rw [← hx2] at dx hxy2
          rw [← hy2] at dy hxy2
          have HXY2 := Lib.hid hxy2
          have hcp : crossP (xs.getD i (0, 0)) (xs.getD j (0, 0)) = crossB x y x2 y2 := by unfold crossP; rw [HX.out, HY.out, hx2, hy2]
          clear hxy2 hx2 hy2
          have hi1 : 0 ≤ (j : Int) := by omega
          have hi2 : (j : Int) < (xs.length : Int) := by omega
          have hlen : (allP xs i ++ rowP xs i j).length ≤ 3600 := by
            have h1 := allP_length xs i
            have h2 := rowP_length xs i j
            have h3 : i * xs.length ≤ 59 * 60 := Nat.mul_le_mul (by omega) hn
            rw [List.length_append]
            omega
          have hlv := HRj.out.len
          cases hcr : crossB x y x2 y2 with
          | true =>
            have HY2 := Lib.hid (rowP_yes xs i j (by omega) (hcp.trans hcr))
            have HCR := Lib.hid hcr
            clear hcp hcr
            go_wp2
            go_region_held3 (fun w' => w'.cell? ⟨wo.heap.size, 0, none⟩ = some (.int .i64 x) ∧ w'.cell? ⟨wo.heap.size, 1, none⟩ = some (.int .i64 y) ∧ w'.cell? ⟨g1, j * 2, none⟩ = some (.int .i64 x2) ∧ w'.cell? ⟨g1, j * 2 + 1, none⟩ = some (.int .i64 y2)) (go_keep)
              (first | (go_at_call 82; (with_reducible refine (areInTurn_any x y x2 y2 _).mono ?_); rintro e w1 ⟨rfl, hb⟩; rw [HCR.out]; (have c0 : w1.cell? ⟨wo.heap.size, 0, none⟩ = some (.int .i64 x) := cellB hb (by first | assumption | go_simp)); (have c1 : w1.cell? ⟨wo.heap.size, 1, none⟩ = some (.int .i64 y) := cellB hb (by first | assumption | go_simp)); (have c2 : w1.cell? ⟨g1, j * 2, none⟩ = some (.int .i64 x2) := cellB hb (by first | assumption | go_simp)); (have c3 : w1.cell? ⟨g1, j * 2 + 1, none⟩ = some (.int .i64 y2) := cellB hb (by first | assumption | go_simp)); (have HBW : Hid (Below wr.heap.size wr w1) := Lib.hid (Below.trans (by go_grown) (hb.mono (by first | omega | (simp; done) | (simp; omega))))); clear hb))
            have hbw := HBW.out
            have hz1 := hbw.size
            have hB1 := hBj.trans (hbw.mono hzj)
            have hbx1 : w1.heap[wo.heap.size]? = some (.cells #[.int .i64 x, .int .i64 y] 52 (0, 0)) := (hbw.block _ hwz).trans HBX.out
            have hRa := HRj.out.keep (belowSame hbw (Nat.le_refl _))
            have hRb := hRa.keep (belowSame (w := w1) (w' := w1.alloc (.cells #[.int .i64 (i : Int), .int .i64 (j : Int)] 3)) (by go_grown) hz1)
            have hu := (Ints.boxed w1 w1.heap.size 3 [(i : Int), (j : Int)] (Nat.le_refl _) (by simp)).inn
            have HU := Lib.hid hu
            have HRB := Lib.hid hRb
            have HB1 := Lib.hid hB1
            have HBX1 := Lib.hid hbx1
            clear hu hRa hRb hB1 hbx1 hbw c0 c1 c2 c3
            go_wp2_with (at_builtin; refine wpList_append_val rfl _ _ 69 rfl w.heap.size 33 (.slice none 0 0) 24 Try.underlying69 info_ints (by decide) (by decide) _ vs rfl HRB.out.outer _ rfl (by rw [World.size_alloc]; rfl) (by omega) (by simp; omega) ?_; intro v' w4 ho hg; have hn4 := hg.size; have HN := Lib.hid ((HRB.out.wider (T' := w1.heap.size) (by omega)).more (by decide) HU.out (by omega) (by simp) hn4 ho hg); have HOV := Lib.hid HRB.out.outer.lt; have HG := Lib.hid hg; clear ho hg)
            have hne := box_apart HRB.out.outer (b := wo.heap.size) ((show (w1.alloc (.cells #[.int .i64 (i : Int), .int .i64 (j : Int)] 3)).heap[wo.heap.size]? = w1.heap[wo.heap.size]? from heap_alloc_old _ _ (by omega)).trans HBX1.out) (by decide)
            have hbx4 : w4.heap[wo.heap.size]? = some (.cells #[.int .i64 x, .int .i64 y] 52 (0, 0)) := by
              rw [HG.out.block _ (by simp; omega) (fun e => hne e.symm)]
              exact (heap_alloc_old _ _ (by omega)).trans HBX1.out
            have hB4 : Below w.heap.size w w4 := Below.trans (show Below w.heap.size w (w1.alloc (.cells #[.int .i64 (i : Int), .int .i64 (j : Int)] 3)) from HB1.out.trans ((Below.refl _ _).alloc (by omega) _)) (Only.below (Only.of_grown (B := w.heap.size) (T := (w1.alloc (.cells #[.int .i64 (i : Int), .int .i64 (j : Int)] 3)).heap.size) HG.out HOV.out) (Nat.le_refl _) (by simp; omega))
            go_roundw
            case rel => exact ⟨j + 1, by omega, by omega, by go_num, by rw [HY2.out, ← List.append_assoc]; exact ⟨_, HN.out⟩, hB4, hbx4⟩
            case measure => simp [intOf]; omega
          | false =>
            have HY2 := Lib.hid (rowP_no xs i j (hcp.trans hcr))
            have HCR := Lib.hid hcr
            clear hcp hcr
            go_wp2
            go_region_held3 (fun w' => w'.cell? ⟨wo.heap.size, 0, none⟩ = some (.int .i64 x) ∧ w'.cell? ⟨wo.heap.size, 1, none⟩ = some (.int .i64 y) ∧ w'.cell? ⟨g1, j * 2, none⟩ = some (.int .i64 x2) ∧ w'.cell? ⟨g1, j * 2 + 1, none⟩ = some (.int .i64 y2)) (go_keep)
              (first | (go_at_call 82; (with_reducible refine (areInTurn_any x y x2 y2 _).mono ?_); rintro e w1 ⟨rfl, hb⟩; rw [HCR.out]; (have c0 : w1.cell? ⟨wo.heap.size, 0, none⟩ = some (.int .i64 x) := cellB hb (by first | assumption | go_simp)); (have c1 : w1.cell? ⟨wo.heap.size, 1, none⟩ = some (.int .i64 y) := cellB hb (by first | assumption | go_simp)); (have c2 : w1.cell? ⟨g1, j * 2, none⟩ = some (.int .i64 x2) := cellB hb (by first | assumption | go_simp)); (have c3 : w1.cell? ⟨g1, j * 2 + 1, none⟩ = some (.int .i64 y2) := cellB hb (by first | assumption | go_simp)); (have HBW : Hid (Below wr.heap.size wr w1) := Lib.hid (Below.trans (by go_grown) (hb.mono (by first | omega | (simp; done) | (simp; omega))))); clear hb))
            have hbw := HBW.out
            have hz1 := hbw.size
            have hB1 := hBj.trans (hbw.mono hzj)
            have hbx1 : w1.heap[wo.heap.size]? = some (.cells #[.int .i64 x, .int .i64 y] 52 (0, 0)) := (hbw.block _ hwz).trans HBX.out
            have hRa := HRj.out.keep (belowSame hbw (Nat.le_refl _))
            clear c0 c1 c2 c3
            go_wp2
            go_roundw
            case rel => exact ⟨j + 1, by omega, by omega, by go_num, by rw [HY2.out]; exact ⟨_, hRa.wider hz1⟩, hB1, hbx1⟩
            case measure => simp [intOf]; omega
        · obtain rfl : j = xs.length := by omega
          go_wp2
          go_roundw
          case rel => exact ⟨i + 1, by omega, by go_num, ⟨vs, HRj.out⟩, hBj⟩
          case measure => simp [intOf]; omega
    · obtain rfl : i = xs.length := by omega
      go_wp2
      go_ret
      exact ⟨_, rfl, HR.out, hB⟩

end Go.Proofs.Ytnldnjgnpdicnaa
