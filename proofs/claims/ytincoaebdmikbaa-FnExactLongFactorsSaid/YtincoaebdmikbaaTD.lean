/- Times tables: orders and factors that lead back. -/
import Derived.Test.YtincoaebdmikbaaTC
namespace Go.Proofs.Ytincoaebdmikbaa
open Go.RowKit
set_option linter.unusedVariables false

set_option maxHeartbeats 400000 in
theorem sOrder_yes (p f : Nat) (w : World) (h : 3 ≤ p ∧ p ≤ 60) (hf : f < p) (hg : Nat.gcd p f = 1) :
    Calls Try.prog 34 #[.int .i64 p, .int .i64 f] w fun e w' => e = .returned (.tuple #[.int .i64 (ordT p f : Nat), .bool true]) ∧ Below w.heap.size w w' := by
  have g : (3 ≤ (p : Int) ∧ (p : Int) ≤ 60) ∧ (0 ≤ (f : Int) ∧ (f : Int) < p) := by omega
  have HG := Lib.hid hg
  have HB := Lib.hid (show (Nat.gcd p f == 1) = true by rw [hg]; rfl)
  clear hg
  go_enter Try.func34, Try.ntmps34
  go_wp2_with (first | (go_at_call 47; (with_reducible refine (taGood_yes _ _ _ g).mono ?_); rintro e w1 ⟨rfl, rfl⟩) | (go_at_call 61; (with_reducible refine (taUndone_any p f true _ h hf HB.out).mono ?_); rintro e w1 ⟨rfl, hb1⟩) | (go_at_call 63; (with_reducible refine (taOrder_any p f _ h hf HG.out).mono ?_); rintro e w2 ⟨rfl, hb2⟩))
  go_ret2
  exact ⟨rfl, hb1.trans (hb2.mono hb1.size)⟩

set_option maxHeartbeats 400000 in
theorem sOrder_not (p f : Nat) (w : World) (h : 3 ≤ p ∧ p ≤ 60) (hf : f < p) (hg : Nat.gcd p f ≠ 1) :
    Calls Try.prog 34 #[.int .i64 p, .int .i64 f] w fun e w' => e = .returned (.tuple #[.int .i64 0, .bool false]) ∧ Below w.heap.size w w' := by
  have g : (3 ≤ (p : Int) ∧ (p : Int) ≤ 60) ∧ (0 ≤ (f : Int) ∧ (f : Int) < p) := by omega
  have HB := Lib.hid (show (Nat.gcd p f == 1) = false from beq_eq_false_iff_ne.2 hg)
  clear hg
  go_enter Try.func34, Try.ntmps34
  go_wp2_with (first | (go_at_call 47; (with_reducible refine (taGood_yes _ _ _ g).mono ?_); rintro e w1 ⟨rfl, rfl⟩) | (go_at_call 61; (with_reducible refine (taUndone_any p f false _ h hf HB.out).mono ?_); rintro e w1 ⟨rfl, hb1⟩))
  go_ret2
  exact ⟨rfl, hb1⟩

set_option maxHeartbeats 400000 in
theorem sOrder_no (p f : Int) (w : World) (h : ¬ ((3 ≤ p ∧ p ≤ 60) ∧ (0 ≤ f ∧ f < p))) :
    Calls Try.prog 34 #[.int .i64 p, .int .i64 f] w fun e w' => e = .returned (.tuple #[.int .i64 0, .bool false]) ∧ Below w.heap.size w w' := by
  go_enter Try.func34, Try.ntmps34
  go_wp2_with (first | (go_at_call 47; (with_reducible refine (taGood_no _ _ _ h).mono ?_); rintro e w1 ⟨rfl, rfl⟩))
  go_ret2
  exact ⟨rfl, Below.refl _ _⟩

set_option maxHeartbeats 400000 in
theorem iOrder_no (p f : Int) (w : World) (h : ¬ ((3 ≤ p ∧ p ≤ 60) ∧ (0 ≤ f ∧ f < p))) :
    Calls Try.prog 35 #[.int .i64 p, .int .i64 f] w fun e w' => e = .returned (.tuple #[.int .i64 0, .bool false]) ∧ Below w.heap.size w w' := by
  go_enter Try.func35, Try.ntmps35
  go_wp2_with (first | (go_at_call 33; (with_reducible refine (iCanBeUndone_no _ _ _ h).mono ?_); rintro e w1 ⟨rfl, hb1⟩))
  go_ret2
  exact ⟨rfl, hb1⟩

set_option maxHeartbeats 400000 in
theorem iOrder_not (p f : Nat) (w : World) (h : 3 ≤ p ∧ p ≤ 60) (hf : f < p) (hg : Nat.gcd p f ≠ 1) :
    Calls Try.prog 35 #[.int .i64 p, .int .i64 f] w fun e w' => e = .returned (.tuple #[.int .i64 0, .bool false]) ∧ Below w.heap.size w w' := by
  have HB := Lib.hid (show (Nat.gcd p f == 1) = false from beq_eq_false_iff_ne.2 hg)
  clear hg
  go_enter Try.func35, Try.ntmps35
  go_wp2_with (first | (go_at_call 33; (with_reducible refine (iCanBeUndone_yes _ _ false _ h hf HB.out).mono ?_); rintro e w1 ⟨rfl, hb1⟩))
  go_ret2
  exact ⟨rfl, hb1⟩

set_option maxHeartbeats 4000000 in
set_option maxRecDepth 100000 in
theorem iOrder_yes (p f : Nat) (w : World) (h : 3 ≤ p ∧ p ≤ 60) (hf : f < p) (hg : Nat.gcd p f = 1) :
    Calls Try.prog 35 #[.int .i64 p, .int .i64 f] w fun e w' => e = .returned (.tuple #[.int .i64 (ordT p f : Nat), .bool true]) ∧ Below w.heap.size w w' := by
  have HB := Lib.hid (show (Nat.gcd p f == 1) = true by rw [hg]; rfl)
  obtain ⟨o1, o2, o3, o4⟩ := ord_all p f h hf hg
  obtain ⟨n, hn⟩ : ∃ n, n = ordT p f := ⟨_, rfl⟩
  rw [← hn] at o1 o2 o3 o4 ⊢
  have H3 := Lib.hid o3
  have H4 := Lib.hid o4
  clear o3 o4 hn hg
  have p0 : 0 < p := by omega
  have p1 : 1 < p := by omega
  go_enter Try.func35, Try.ntmps35
  go_wp2_with (first
    | (go_at_call 33; (with_reducible refine (iCanBeUndone_yes _ _ true _ h hf HB.out).mono ?_); rintro e w1 ⟨rfl, hb1⟩)
    | (go_at_call 46; (with_reducible refine (powersOf_any _ _ _).mono ?_); rintro e w2 ⟨ga, gb, rfl, ca, cb, hb2⟩; have hB2 := hb1.trans (hb2.mono hb1.size); clear hb2 hb1)
    | (go_at_call 49; (refine (rowOf_any p 1 _ h p1).mono ?_); rintro e w3 ⟨rfl, hb3⟩; have la := World.block_lt_of_cell? w2 _ ca; have lb := World.block_lt_of_cell? w2 _ cb; have da := (World.cell?_alloc_lt w3 (.cells (rowV p 1 p) 46) ⟨ga, 0, none⟩ (Nat.lt_of_lt_of_le la hb3.size)).trans (cellB hb3 ca); have db := (World.cell?_alloc_lt w3 (.cells (rowV p 1 p) 46) ⟨gb, 0, none⟩ (Nat.lt_of_lt_of_le lb hb3.size)).trans (cellB hb3 cb); have dr := RowAt.new w3 p 1; have hB3 := (hB2.trans (hb3.mono hB2.size)).alloc (Nat.le_trans hB2.size hb3.size) (.cells (rowV p 1 p) 46); have n3 := Nat.le_trans hB2.size hb3.size; clear ca cb la lb hb3 hB2)
    | (with_reducible refine wpList_store_new rfl 46 (.tmp 9) (.tmp 27) rfl (rowV p 1 p) rfl rfl _ (info_rowV p 1 h.2) (by simp [rowV_size p 1 p h.2]) (rowV_one p 1 p) ?_))
  have HDA := Lib.hid da
  have HDB := Lib.hid db
  have HDR := Lib.hid dr
  have HB3 := Lib.hid hB3
  clear da db dr hB3
  go_loopw [10] (fun u wr => ∃ k : Nat, 1 ≤ k ∧ k ≤ n ∧ u = .int .i64 k ∧ Hid (wr.cell? ⟨ga, 0, none⟩ = some (.int .i64 f) ∧ wr.cell? ⟨gb, 0, none⟩ = some (.int .i64 p) ∧ RowAt wr w3.heap.size p 1) ∧ Below w.heap.size w wr) (fun u _ => n - (intOf u).toNat)
  case atStart => exact ⟨1, by omega, o1, rfl, Lib.hid ⟨HDA.out, HDB.out, HDR.out⟩, HB3.out⟩
  case round =>
    obtain ⟨k, hk1, hk2, rfl, HS, hB⟩ := hrel
    have hz := hB.size
    obtain ⟨x, hx⟩ : ∃ x, f ^ k % p = x := ⟨_, rfl⟩
    have HX := Lib.hid hx
    have hxl : x < p := by rw [← hx]; exact Nat.mod_lt _ p0
    clear hx
    obtain ⟨cs, hcs⟩ : ∃ cs : List Value, cs = (rowL p 1).map (Value.int .i64) := ⟨_, rfl⟩
    have hci : (Try.prog.info? 46).map (·.size) = some cs.length := by rw [hcs, List.length_map, rowL_length p 1 h.2]; exact info_row
    have hut : Try.prog.underlying 46 = some (.array 60 3) := Try.underlying46
    have hra : ∀ W, RowAt W w3.heap.size p 1 → W.rangeAt w3.heap.size 0 cs := fun W hr j v hv => by
      rw [Nat.zero_add, cell_of_row W w3.heap.size j _ _ (0, 0) hr, rowV_cells, intCells, ← hcs, List.getElem?_toArray]
      exact hv
    have HRA := Lib.hid hra
    clear hra
    have hgd := fun (op : BinOp) (a b : Operand) (x y : Array Value) (w : World) => GuardAt.agg (P := Try.prog) (T := 46) (fun (x : Array Value) => x) (by kernel_rfl) op a b x y w
    by_cases hlt : k < n
    · have hne : ∀ W, (binOp .neq 46 (.agg (rowV p x p)) (.agg cs.toArray)).run Try.prog W = .ok (.bool true) W := fun W => by
        have e0 : cs.toArray = rowV p 1 p := by rw [hcs, rowV_cells]; rfl
        rw [e0]
        exact row_neq p x h hxl true (by rw [Bool.not_true]; exact beq_eq_false_iff_ne.2 (fun e => H4.out k hlt hk1 (by rw [HX.out]; exact e))) W
      clear hcs
      go_wp2
      go_region_held3 (fun w' => w'.rangeAt w3.heap.size 0 cs) (first | exact HRA.out _ HS.out.2.2 | exact HRA.out _ HS2.out.2.2 | go_keep)
        (first
          | (go_at_call 68; (refine (powFn_any p f k x ga gb HX.out _ (by exact HS.out.1) (by exact HS.out.2.1) h hf (by omega)).mono ?_); (rintro e w5 ⟨rfl, rfl⟩))
          | (go_at_call 49; (refine (rowOf_any p x _ h hxl).mono ?_); rintro e w6 ⟨rfl, hb6⟩; have HB6 := Lib.hid (show Below wr.heap.size wr w6 from Below.trans (by go_grown) (hb6.mono (by first | (simp; done) | omega | (simp; omega)))); clear hb6; have HS2 : Hid (w6.cell? ⟨ga, 0, none⟩ = some (.int .i64 f) ∧ w6.cell? ⟨gb, 0, none⟩ = some (.int .i64 p) ∧ RowAt w6 w3.heap.size p 1) := Lib.hid ⟨cellB HB6.out HS.out.1, cellB HB6.out HS.out.2.1, HS.out.2.2.keep HB6.out⟩))
      go_wp2
      go_roundw
      case rel => exact ⟨k + 1, by omega, by omega, by go_num, by first | exact HS2 | exact Lib.hid ⟨HS2.out.1, HS2.out.2.1, HS2.out.2.2⟩, by first | exact hB.trans (HB6.out.mono hz) | exact bdn (hB.trans (HB6.out.mono hz)) _⟩
      case measure => simp [intOf]; omega
    · obtain rfl : k = n := by omega
      obtain rfl : x = 1 := by rw [← HX.out, H3.out]
      have hne : ∀ W, (binOp .neq 46 (.agg (rowV p 1 p)) (.agg cs.toArray)).run Try.prog W = .ok (.bool false) W := fun W => by
        have e0 : cs.toArray = rowV p 1 p := by rw [hcs, rowV_cells]; rfl
        rw [e0]
        exact row_neq p 1 h hxl false rfl W
      clear hcs
      go_wp2
      go_region_held3 (fun w' => w'.rangeAt w3.heap.size 0 cs) (first | exact HRA.out _ HS.out.2.2 | exact HRA.out _ HS2.out.2.2 | go_keep)
        (first
          | (go_at_call 68; (refine (powFn_any p f k 1 ga gb HX.out _ (by exact HS.out.1) (by exact HS.out.2.1) h hf (by omega)).mono ?_); (rintro e w5 ⟨rfl, rfl⟩))
          | (go_at_call 49; (refine (rowOf_any p 1 _ h hxl).mono ?_); rintro e w6 ⟨rfl, hb6⟩; have HB6 := Lib.hid (show Below wr.heap.size wr w6 from Below.trans (by go_grown) (hb6.mono (by first | (simp; done) | omega | (simp; omega)))); clear hb6; have HS2 : Hid (w6.cell? ⟨ga, 0, none⟩ = some (.int .i64 f) ∧ w6.cell? ⟨gb, 0, none⟩ = some (.int .i64 p) ∧ RowAt w6 w3.heap.size p 1) := Lib.hid ⟨cellB HB6.out HS.out.1, cellB HB6.out HS.out.2.1, HS.out.2.2.keep HB6.out⟩))
      go_wp2
      go_ret2
      exact ⟨rfl, by first | exact hB.trans (HB6.out.mono hz) | exact bdn (hB.trans (HB6.out.mono hz)) _⟩

set_option maxHeartbeats 400000 in
theorem walk_OrderOfFactor (p f : Int) (w : World) (_ : (Lit.int .i64 p).wf = true) (_ : (Lit.int .i64 f).wf = true) :
    Calls Try.prog 11 #[.int .i64 p, .int .i64 f] w fun e w' => e = .returned (.bool true) ∧ Below w.heap.size w w' := by
  by_cases h : (3 ≤ p ∧ p ≤ 60) ∧ (0 ≤ f ∧ f < p)
  · obtain ⟨p, rfl⟩ := Int.eq_ofNat_of_zero_le (show 0 ≤ p by omega)
    obtain ⟨f, rfl⟩ := Int.eq_ofNat_of_zero_le (show 0 ≤ f by omega)
    have h1 : 3 ≤ p ∧ p ≤ 60 := by omega
    have h2 : f < p := by omega
    clear h
    by_cases hg : Nat.gcd p f = 1
    · have HG := Lib.hid hg
      clear hg
      go_enter Try.func11, Try.ntmps11
      go_wp2_with (first | (go_at_call 34; (with_reducible refine (sOrder_yes p f _ h1 h2 HG.out).mono ?_); rintro e w1 ⟨rfl, hb1⟩) | (go_at_call 35; (with_reducible refine (iOrder_yes p f _ h1 h2 HG.out).mono ?_); rintro e w2 ⟨rfl, hb2⟩))
      go_ret
      exact ⟨rfl, hb1.trans (hb2.mono hb1.size)⟩
    · have HG := Lib.hid hg
      clear hg
      go_enter Try.func11, Try.ntmps11
      go_wp2_with (first | (go_at_call 34; (with_reducible refine (sOrder_not p f _ h1 h2 HG.out).mono ?_); rintro e w1 ⟨rfl, hb1⟩) | (go_at_call 35; (with_reducible refine (iOrder_not p f _ h1 h2 HG.out).mono ?_); rintro e w2 ⟨rfl, hb2⟩))
      go_ret
      exact ⟨rfl, hb1.trans (hb2.mono hb1.size)⟩
  · go_enter Try.func11, Try.ntmps11
    go_wp2_with (first | (go_at_call 34; (with_reducible refine (sOrder_no _ _ _ h).mono ?_); rintro e w1 ⟨rfl, hb1⟩) | (go_at_call 35; (with_reducible refine (iOrder_no _ _ _ h).mono ?_); rintro e w2 ⟨rfl, hb2⟩))
    go_ret
    exact ⟨rfl, hb1.trans (hb2.mono hb1.size)⟩

set_option maxHeartbeats 400000 in
theorem iUndo_yes (p f : Nat) (w : World) (h : 3 ≤ p ∧ p ≤ 60) (hf : f < p) (hg : Nat.gcd p f = 1) :
    Calls Try.prog 37 #[.int .i64 p, .int .i64 f] w fun e w' => e = .returned (.tuple #[.int .i64 (f ^ (ordT p f - 1) % p : Nat), .bool true]) ∧ Below w.heap.size w w' := by
  obtain ⟨o1, o2, _, _⟩ := ord_all p f h hf hg
  obtain ⟨n, hn⟩ : ∃ n, n = ordT p f := ⟨_, rfl⟩
  obtain ⟨r, hr⟩ : ∃ r, f ^ (n - 1) % p = r := ⟨_, rfl⟩
  rw [← hn] at o1 o2 ⊢
  rw [hr]
  have HR := Lib.hid hr
  have HG := Lib.hid hg
  have HN := Lib.hid hn
  have HK := Lib.hid (show (n : Int) - 1 = ((n - 1 : Nat) : Int) by omega)
  clear hr hg hn
  go_enter Try.func37, Try.ntmps37
  go_wp2_with (first
    | (go_at_call 35; (with_reducible refine (iOrder_yes p f _ h hf HG.out).mono ?_); rw [← HN.out]; rintro e w1 ⟨rfl, hb1⟩)
    | (go_at_call 46; (with_reducible refine (powersOf_any _ _ _).mono ?_); rintro e w2 ⟨ga, gb, rfl, ca, cb, hb2⟩)
    | (go_at_call 68; rw [HK.out]; (refine (powFn_any p f (n - 1) r ga gb HR.out _ ca cb h hf (by omega)).mono ?_); rintro e w5 ⟨rfl, rfl⟩))
  go_ret2
  exact ⟨rfl, hb1.trans (hb2.mono hb1.size)⟩

set_option maxHeartbeats 400000 in
theorem iUndo_not (p f : Nat) (w : World) (h : 3 ≤ p ∧ p ≤ 60) (hf : f < p) (hg : Nat.gcd p f ≠ 1) :
    Calls Try.prog 37 #[.int .i64 p, .int .i64 f] w fun e w' => e = .returned (.tuple #[.int .i64 0, .bool false]) ∧ Below w.heap.size w w' := by
  have HG := Lib.hid hg
  clear hg
  go_enter Try.func37, Try.ntmps37
  go_wp2_with (first | (go_at_call 35; (with_reducible refine (iOrder_not p f _ h hf HG.out).mono ?_); rintro e w1 ⟨rfl, hb1⟩))
  go_ret2
  exact ⟨rfl, hb1⟩

set_option maxHeartbeats 400000 in
theorem iUndo_no (p f : Int) (w : World) (h : ¬ ((3 ≤ p ∧ p ≤ 60) ∧ (0 ≤ f ∧ f < p))) :
    Calls Try.prog 37 #[.int .i64 p, .int .i64 f] w fun e w' => e = .returned (.tuple #[.int .i64 0, .bool false]) ∧ Below w.heap.size w w' := by
  go_enter Try.func37, Try.ntmps37
  go_wp2_with (first | (go_at_call 35; (with_reducible refine (iOrder_no p f _ h).mono ?_); rintro e w1 ⟨rfl, hb1⟩))
  go_ret2
  exact ⟨rfl, hb1⟩

set_option maxHeartbeats 1000000 in
theorem sUndo_yes (p f r : Nat) (w : World) (h : 3 ≤ p ∧ p ≤ 60) (hf : f < p) (hr : r < p) (h1 : r * f % p = 1) (h2 : ∀ k, k < r → k * f % p ≠ 1) :
    Calls Try.prog 36 #[.int .i64 p, .int .i64 f] w fun e w' => e = .returned (.tuple #[.int .i64 r, .bool true]) ∧ Below w.heap.size w w' := by
  have g : (3 ≤ (p : Int) ∧ (p : Int) ≤ 60) ∧ (0 ≤ (f : Int) ∧ (f : Int) < p) := by omega
  have H1 := Lib.hid h1
  have H2 := Lib.hid h2
  clear h1 h2
  go_enter Try.func36, Try.ntmps36
  go_wp2_with (first | (go_at_call 47; (with_reducible refine (taGood_yes _ _ _ g).mono ?_); rintro e w1 ⟨rfl, rfl⟩))
  go_loop [6] (fun u => ∃ k : Nat, k ≤ r ∧ u = .int .i64 k) (fun u => r - (intOf u).toNat)
  case atStart => exact ⟨0, by omega, rfl⟩
  case round =>
    obtain ⟨k, hk, rfl⟩ := hrel
    have hlp : (k : Int) < (p : Int) := by omega
    obtain ⟨m1, m2⟩ := mul_bd60 (a := k) (b := f) (by omega) (by omega)
    by_cases hlt : k < r
    · have e1 : ((k : Int) * (f : Int) % (p : Int) == 1) = false := beq_eq_false_iff_ne.2 (fun e => H2.out k hlt (by exact_mod_cast e))
      go_wp2
      go_round
      case rel => exact ⟨k + 1, by omega, by go_num⟩
      case measure => simp [intOf]; omega
    · obtain rfl : k = r := by omega
      have e1 : ((k : Int) * (f : Int) % (p : Int) == 1) = true := beq_iff_eq.2 (by exact_mod_cast H1.out)
      go_wp2
      go_ret2
      exact ⟨rfl, Below.refl _ _⟩

set_option maxHeartbeats 1000000 in
theorem sUndo_not (p f : Nat) (w : World) (h : 3 ≤ p ∧ p ≤ 60) (hf : f < p) (h2 : ∀ k, k < p → k * f % p ≠ 1) :
    Calls Try.prog 36 #[.int .i64 p, .int .i64 f] w fun e w' => e = .returned (.tuple #[.int .i64 0, .bool false]) ∧ Below w.heap.size w w' := by
  have g : (3 ≤ (p : Int) ∧ (p : Int) ≤ 60) ∧ (0 ≤ (f : Int) ∧ (f : Int) < p) := by omega
  have H2 := Lib.hid h2
  clear h2
  go_enter Try.func36, Try.ntmps36
  go_wp2_with (first | (go_at_call 47; (with_reducible refine (taGood_yes _ _ _ g).mono ?_); rintro e w1 ⟨rfl, rfl⟩))
  go_loop [6] (fun u => ∃ k : Nat, k ≤ p ∧ u = .int .i64 k) (fun u => p - (intOf u).toNat)
  case atStart => exact ⟨0, by omega, rfl⟩
  case round =>
    obtain ⟨k, hk, rfl⟩ := hrel
    by_cases hlt : k < p
    · obtain ⟨m1, m2⟩ := mul_bd60 (a := k) (b := f) (by omega) (by omega)
      have e1 : ((k : Int) * (f : Int) % (p : Int) == 1) = false := beq_eq_false_iff_ne.2 (fun e => H2.out k hlt (by exact_mod_cast e))
      go_wp2
      go_round
      case rel => exact ⟨k + 1, by omega, by go_num⟩
      case measure => simp [intOf]; omega
    · obtain rfl : k = p := by omega
      go_wp2
      go_ret2
      exact ⟨rfl, Below.refl _ _⟩

set_option maxHeartbeats 400000 in
theorem sUndo_no (p f : Int) (w : World) (h : ¬ ((3 ≤ p ∧ p ≤ 60) ∧ (0 ≤ f ∧ f < p))) :
    Calls Try.prog 36 #[.int .i64 p, .int .i64 f] w fun e w' => e = .returned (.tuple #[.int .i64 0, .bool false]) ∧ Below w.heap.size w w' := by
  go_enter Try.func36, Try.ntmps36
  go_wp2_with (first | (go_at_call 47; (with_reducible refine (taGood_no _ _ _ h).mono ?_); rintro e w1 ⟨rfl, rfl⟩))
  go_ret2
  exact ⟨rfl, Below.refl _ _⟩

set_option maxHeartbeats 400000 in
theorem walk_UndoFactor (p f : Int) (w : World) (_ : (Lit.int .i64 p).wf = true) (_ : (Lit.int .i64 f).wf = true) :
    Calls Try.prog 12 #[.int .i64 p, .int .i64 f] w fun e w' => e = .returned (.bool true) ∧ Below w.heap.size w w' := by
  by_cases h : (3 ≤ p ∧ p ≤ 60) ∧ (0 ≤ f ∧ f < p)
  · obtain ⟨p, rfl⟩ := Int.eq_ofNat_of_zero_le (show 0 ≤ p by omega)
    obtain ⟨f, rfl⟩ := Int.eq_ofNat_of_zero_le (show 0 ≤ f by omega)
    have h1 : 3 ≤ p ∧ p ≤ 60 := by omega
    have h2 : f < p := by omega
    clear h
    by_cases hg : Nat.gcd p f = 1
    · have HG := Lib.hid hg
      have HU := Lib.hid (undo_all p f h1 h2 hg)
      obtain ⟨r, hr⟩ : ∃ r, r = f ^ (ordT p f - 1) % p := ⟨_, rfl⟩
      have hrp : r < p := by rw [hr]; exact Nat.mod_lt _ (by omega)
      have HU1 := Lib.hid (show r * f % p = 1 by rw [hr]; exact HU.out.1)
      have HU2 := Lib.hid (show ∀ k, k < r → k * f % p ≠ 1 by rw [hr]; exact HU.out.2)
      have HR := Lib.hid hr
      clear hg hr
      go_enter Try.func12, Try.ntmps12
      go_wp2_with (first | (go_at_call 36; (with_reducible refine (sUndo_yes p f r _ h1 h2 hrp HU1.out HU2.out).mono ?_); rintro e w1 ⟨rfl, hb1⟩) | (go_at_call 37; (with_reducible refine (iUndo_yes p f _ h1 h2 HG.out).mono ?_); rw [← HR.out]; rintro e w2 ⟨rfl, hb2⟩))
      go_ret
      exact ⟨rfl, hb1.trans (hb2.mono hb1.size)⟩
    · have HG := Lib.hid hg
      have HU := Lib.hid (ord_none p f h1 h2 hg).2
      clear hg
      go_enter Try.func12, Try.ntmps12
      go_wp2_with (first | (go_at_call 36; (with_reducible refine (sUndo_not p f _ h1 h2 HU.out).mono ?_); rintro e w1 ⟨rfl, hb1⟩) | (go_at_call 37; (with_reducible refine (iUndo_not p f _ h1 h2 HG.out).mono ?_); rintro e w2 ⟨rfl, hb2⟩))
      go_ret
      exact ⟨rfl, hb1.trans (hb2.mono hb1.size)⟩
  · go_enter Try.func12, Try.ntmps12
    go_wp2_with (first | (go_at_call 36; (with_reducible refine (sUndo_no _ _ _ h).mono ?_); rintro e w1 ⟨rfl, hb1⟩) | (go_at_call 37; (with_reducible refine (iUndo_no _ _ _ h).mono ?_); rintro e w2 ⟨rfl, hb2⟩))
    go_ret
    exact ⟨rfl, hb1.trans (hb2.mono hb1.size)⟩

end Go.Proofs.Ytincoaebdmikbaa
