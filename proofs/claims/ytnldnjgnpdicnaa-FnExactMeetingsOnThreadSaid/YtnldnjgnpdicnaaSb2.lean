/- slices.swapRangeCmpFunc, slices.rotateCmpFunc at ints. -/
import Derived.Test.YtnldnjgnpdicnaaSb1
import Derived.Test.YtnldnjgnpdicnaaRows
import Derived.Deep.RegionHeld3
import Derived.Shelf.RegionOpenPlain
namespace Go.Proofs.Ytnldnjgnpdicnaa
open Go.RowKit
set_option linter.unusedVariables false

theorem heap_setCell_otherS (w : World) (a : Addr) (k : Nat) (v : Value) (h : k ≠ a.block) : (w.setCell a v).heap[k]? = w.heap[k]? := Below.heap_setCell w a v k h

theorem Only.setCellS (w : World) (b o : Nat) (v : Value) : Only b (b + 1) w (w.setCell ⟨b, o, none⟩ v) :=
  ⟨rfl, rfl, rfl, by simp, fun k _ hn => heap_setCell_otherS w ⟨b, o, none⟩ k v (by simp; omega)⟩

theorem Only.moreS {B T : Nat} {w w1 w2 : World} (h : Only B T w w1) (g : Below w1.heap.size w1 w2) : Only B T w w2 :=
  h.trans ⟨g.os, g.tape, g.output, g.size, fun k hk _ => g.block k hk⟩

/-- The integers xs in the n cells of a block. -/
def RowS (w : World) (B g n cap : Nat) (xs : List Int) : Prop := Ints w B 3 (.slice (some ⟨g, 0, none⟩) n cap) xs ∧ n = xs.length

theorem RowS.cell {w : World} {B g n cap : Nat} {xs : List Int} (h : RowS w B g n cap xs) (i : Nat) (hi : i < n) : w.cell? ⟨g, i, none⟩ = some (.int .i64 (xs.getD i 0)) := h.1.cellAt i (by rw [← h.2]; exact hi)
theorem RowS.frozen {w : World} {B g n cap : Nat} {xs : List Int} (h : RowS w B g n cap xs) (i : Nat) : w.frozen? ⟨g, i, none⟩ = false := h.1.frozenAt i
theorem RowS.later {w w' : World} {B g n cap : Nat} {xs : List Int} (h : RowS w B g n cap xs) (hb : Below w.heap.size w w') : RowS w' B g n cap xs := ⟨h.1.later hb, h.2⟩
theorem RowS.swap {w : World} {B g n cap : Nat} {xs : List Int} (h : RowS w B g n cap xs) (i j : Nat) {x y : Int} (hx : xs.getD i 0 = x) (hy : xs.getD j 0 = y) :
    RowS ((w.setCell ⟨g, i, none⟩ (.int .i64 y)).setCell ⟨g, j, none⟩ (.int .i64 x)).drew B g n cap (sw xs i j) ∧ Only g (g + 1) w ((w.setCell ⟨g, i, none⟩ (.int .i64 y)).setCell ⟨g, j, none⟩ (.int .i64 x)).drew := by
  subst hx hy
  refine ⟨⟨((h.1.stored i (xs.getD j 0)).1.stored j (xs.getD i 0)).1, ?_⟩, ((Only.setCellS w g i _).trans (Only.setCellS _ g j _)).drewN 1⟩
  rw [sw_length]; exact h.2

set_option maxHeartbeats 1000000 in
theorem swapRange_any (B g n cap a b k : Nat) (xs : List Int) (fv : Value) (w : World) (h : RowS w B g n cap xs) (ha : a + k ≤ b) (hb : b + k ≤ n) (hn : n ≤ 1000) :
    Calls Try.prog 177 #[(.slice (some ⟨g, 0, none⟩) n cap), .int .i64 (a : Int), .int .i64 (b : Int), .int .i64 (k : Int), fv] w fun e w' => e = .returned (.tuple #[]) ∧ RowS w' B g n cap (swp xs a b k) ∧ Only g (g + 1) w w' := by
  have H := Lib.hid h
  clear h
  go_enter Try.func177, Try.ntmps177
  go_wp2
  go_loopw [10] (fun x wr => ∃ i : Nat, i ≤ k ∧ x = .int .i64 i ∧ Hid (RowS wr B g n cap (swp xs a b i)) ∧ Only g (g + 1) w wr) (fun x _ => k - (intOf x).toNat)
  case atStart => exact ⟨0, by omega, rfl, H, Only.refl _ _ _⟩
  case round =>
    obtain ⟨i, hi, rfl, HR, hO⟩ := hrel
    by_cases hlt : i < k
    · have HZ := Lib.hid (show swp xs a b (i + 1) = sw (swp xs a b i) (a + i) (b + i) from rfl)
      obtain ⟨ys, hy⟩ : ∃ ys, swp xs a b i = ys := ⟨_, rfl⟩
      rw [hy] at HR HZ
      obtain ⟨p, hp⟩ : ∃ p, p = a + i := ⟨_, rfl⟩
      obtain ⟨q, hq⟩ : ∃ q, q = b + i := ⟨_, rfl⟩
      rw [← hp, ← hq] at HZ
      have hw1 : IntKind.i64.wrap ((a : Int) + (i : Int)) = (p : Int) := by rw [IntKind.wrap_i64]; omega
      have hw2 : IntKind.i64.wrap ((b : Int) + (i : Int)) = (q : Int) := by rw [IntKind.wrap_i64]; omega
      have p0 : (0 : Int) ≤ (p : Int) := by omega
      have p1 : (p : Int) < (n : Int) := by omega
      have q0 : (0 : Int) ≤ (q : Int) := by omega
      have q1 : (q : Int) < (n : Int) := by omega
      have n1 : ¬ p = q := by omega
      have n2 : ¬ q = p := by omega
      obtain ⟨x, hx⟩ : ∃ x, ys.getD p 0 = x := ⟨_, rfl⟩
      obtain ⟨y, hy'⟩ : ∃ y, ys.getD q 0 = y := ⟨_, rfl⟩
      have c1 := HR.out.cell p (by omega)
      have c2 := HR.out.cell q (by omega)
      rw [hx] at c1
      rw [hy'] at c2
      have f1 := HR.out.frozen p
      have f2 := HR.out.frozen q
      have HS := Lib.hid (HR.out.swap p q hx hy')
      clear hx hy' hy hp hq
      go_wp2
      have c3 : (wr.setCell ⟨g, p, none⟩ (.int .i64 y)).cell? ⟨g, q, none⟩ = some (.int .i64 y) := (World.cell?_setCell_other _ _ _ _ (by intro e'; simp only [Addr.mk.injEq] at e'; omega)).trans c2
      have mixed : Try.prog.follows Departure.mixedOrders = true := by kernel_rfl
      go_big_region_o
      go_wp2
      go_roundw
      case rel => exact ⟨i + 1, by omega, by go_num, Lib.hid (by rw [HZ.out]; exact HS.out.1), hO.trans HS.out.2⟩
      case measure => simp [intOf]; omega
    · obtain rfl : i = k := by omega
      go_wp2
      go_end0
      exact ⟨rfl, HR.out, hO⟩

/-- What is left to be rotated: i elements ahead of m, j behind; ys is what is to come of it. -/
def RotL (xs : List Int) (m i j : Nat) (ys : List Int) : Prop := ∃ P U V S : List Int, xs = P ++ U ++ V ++ S ∧ U.length = i ∧ V.length = j ∧ P.length + i = m ∧ P ++ V ++ U ++ S = ys

theorem RotL.left {xs ys : List Int} {m i j mi : Nat} (h : RotL xs m i j ys) (hij : j < i) (hm : mi + i = m) : RotL (swp xs mi m j) m (i - j) j ys := by
  obtain ⟨P, U, V, S, rfl, rfl, rfl, hp, rfl⟩ := h
  have e : swp (P ++ U ++ V ++ S) mi m V.length = P ++ V ++ U.drop V.length ++ U.take V.length ++ S :=
    swp_all P (U.take V.length) (U.drop V.length) V S (by rw [List.length_take]; omega) _ (by rw [List.append_assoc P (U.take _), List.take_append_drop]) _ _ _ (by omega) (by rw [List.length_take, List.length_drop]; omega) (by rw [List.length_take]; omega)
  refine ⟨P ++ V, U.drop V.length, U.take V.length, S, e, by simp, by rw [List.length_take]; omega, by rw [List.length_append]; omega, ?_⟩
  rw [List.append_assoc (P ++ V), List.take_append_drop]
theorem RotL.right {xs ys : List Int} {m i j mi q : Nat} (h : RotL xs m i j ys) (hij : i < j) (hm : mi + i = m) (hq : q + i = m + j) : RotL (swp xs mi q i) m i (j - i) ys := by
  obtain ⟨P, U, V, S, rfl, rfl, rfl, hp, rfl⟩ := h
  have hd : (V.drop (V.length - U.length)).length = U.length := by rw [List.length_drop]; omega
  have e : swp (P ++ U ++ V ++ S) mi q U.length = P ++ V.drop (V.length - U.length) ++ V.take (V.length - U.length) ++ U ++ S :=
    swp_all P U (V.take (V.length - U.length)) (V.drop (V.length - U.length)) S (by omega) _ (by rw [List.append_assoc (P ++ U) (V.take _), List.take_append_drop]) _ _ _ (by omega) (by rw [List.length_take]; omega) rfl
  refine ⟨P, V.drop (V.length - U.length), V.take (V.length - U.length), U ++ S, by rw [e, List.append_assoc _ U S], hd, by rw [List.length_take]; omega, hp, ?_⟩
  rw [List.append_assoc P, List.take_append_drop, List.append_assoc (P ++ V)]
theorem RotL.last {xs ys : List Int} {m i mi : Nat} (h : RotL xs m i i ys) (hm : mi + i = m) : swp xs mi m i = ys := by
  obtain ⟨P, U, V, S, rfl, hu, hv, hp, rfl⟩ := h
  have e := swp_all P U [] V S (by omega) (P ++ U ++ V ++ S) (by simp) mi m i (by omega) (by simp; omega) hu.symm
  rw [e]; simp

set_option maxHeartbeats 1000000 in
theorem rotate_any (B g n cap a m b : Nat) (xs ys : List Int) (fv : Value) (w : World) (h : RowS w B g n cap xs) (ham : a < m) (hmb : m < b) (hb : b ≤ n) (hr : RotL xs m (m - a) (b - m) ys) (hn : n ≤ 1000) :
    Calls Try.prog 162 #[(.slice (some ⟨g, 0, none⟩) n cap), .int .i64 (a : Int), .int .i64 (m : Int), .int .i64 (b : Int), fv] w fun e w' => e = .returned (.tuple #[]) ∧ RowS w' B g n cap ys ∧ Only g (g + 1) w w' := by
  have H := Lib.hid h
  have HR := Lib.hid hr
  obtain ⟨i0, hi0⟩ : ∃ i, i = m - a := ⟨_, rfl⟩
  obtain ⟨j0, hj0⟩ : ∃ j, j = b - m := ⟨_, rfl⟩
  rw [← hi0, ← hj0] at HR
  have hw1 : IntKind.i64.wrap ((m : Int) - (a : Int)) = (i0 : Int) := by rw [IntKind.wrap_i64]; omega
  have hw2 : IntKind.i64.wrap ((b : Int) - (m : Int)) = (j0 : Int) := by rw [IntKind.wrap_i64]; omega
  have b1 : 0 < i0 := by omega
  have b2 : 0 < j0 := by omega
  have b3 : i0 ≤ m := by omega
  have b4 : m + j0 ≤ n := by omega
  clear h hr hi0 hj0
  go_enter Try.func162, Try.ntmps162
  go_wp2
  go_loopw [10, 11] (fun x y wr => ∃ i j : Nat, x = .int .i64 (i : Int) ∧ y = .int .i64 (j : Int) ∧ 0 < i ∧ 0 < j ∧ i ≤ m ∧ m + j ≤ n ∧ Hid (∃ zs, RowS wr B g n cap zs ∧ RotL zs m i j ys) ∧ Only g (g + 1) w wr) (fun x y _ => (intOf x).toNat + (intOf y).toNat)
  case atStart => exact ⟨i0, j0, rfl, rfl, b1, b2, b3, b4, Lib.hid ⟨xs, H.out, HR.out⟩, Only.refl _ _ _⟩
  case round =>
    obtain ⟨i, j, rfl, rfl, hi, hj, him, hjn, HZ, hO⟩ := hrel
    obtain ⟨zs, hz, hl⟩ := HZ.out
    have HZ1 := Lib.hid hz
    have HL := Lib.hid hl
    obtain ⟨mi, hmi⟩ : ∃ mi, mi + i = m := ⟨m - i, by omega⟩
    have hw3 : IntKind.i64.wrap ((m : Int) - (i : Int)) = (mi : Int) := by rw [IntKind.wrap_i64]; omega
    have HMI := Lib.hid hmi
    clear hz hl HZ
    rcases Nat.lt_trichotomy i j with hij | rfl | hij
    · obtain ⟨q, hq⟩ : ∃ q, q + i = m + j := ⟨m + j - i, by omega⟩
      have e1 : ((i : Int) == (j : Int)) = false := beq_eq_false_iff_ne.2 (by omega)
      have e2 : ¬ (j : Int) < (i : Int) := by omega
      have hw4 : IntKind.i64.wrap ((m : Int) + (j : Int)) = ((m : Int) + (j : Int)) := by rw [IntKind.wrap_i64]; omega
      have hw5 : IntKind.i64.wrap ((m : Int) + (j : Int) - (i : Int)) = (q : Int) := by rw [IntKind.wrap_i64]; omega
      obtain ⟨k, hk⟩ : ∃ k, k = j - i := ⟨_, rfl⟩
      have hw6 : IntKind.i64.wrap ((j : Int) - (i : Int)) = (k : Int) := by rw [IntKind.wrap_i64]; omega
      have HQ := Lib.hid hq
      have HK := Lib.hid hk
      have hk2 : k < j ∧ 0 < k ∧ mi + i ≤ q ∧ q + i ≤ n := by omega
      clear hmi hq hk
      go_wp2_with (first | (go_at_call 177; (refine (swapRange_any B g n cap mi q i zs _ _ HZ1.out (by omega) (by omega) hn).mono ?_); rintro e w1 ⟨rfl, hR1, hO1⟩))
      all_goals first
        | (exfalso; omega)
        | (go_roundw
           case rel => exact ⟨i, k, by go_num, by go_num, hi, by omega, him, by omega, Lib.hid ⟨_, hR1, by rw [HK.out]; exact HL.out.right hij HMI.out HQ.out⟩, hO.trans hO1⟩
           case measure => simp [intOf]; omega)
    · go_wp2_with (first | (go_at_call 177; (refine (swapRange_any B g n cap mi m i zs _ _ HZ1.out (by omega) (by omega) hn).mono ?_); rintro e w1 ⟨rfl, hR1, hO1⟩))
      go_end0
      exact ⟨rfl, by rw [HL.out.last HMI.out] at hR1; exact hR1, hO.trans hO1⟩
    · have e1 : ((i : Int) == (j : Int)) = false := beq_eq_false_iff_ne.2 (by omega)
      have e2 : (j : Int) < (i : Int) := by omega
      obtain ⟨k, hk⟩ : ∃ k, k = i - j := ⟨_, rfl⟩
      have hw6 : IntKind.i64.wrap ((i : Int) - (j : Int)) = (k : Int) := by rw [IntKind.wrap_i64]; omega
      have HK := Lib.hid hk
      have hk2 : k < i ∧ 0 < k ∧ mi + j ≤ m := by omega
      clear hmi hk
      go_wp2_with (first | (go_at_call 177; (refine (swapRange_any B g n cap mi m j zs _ _ HZ1.out (by omega) (by omega) hn).mono ?_); rintro e w1 ⟨rfl, hR1, hO1⟩))
      all_goals first
        | (exfalso; omega)
        | (go_roundw
           case rel => exact ⟨k, j, by go_num, by go_num, by omega, hj, by omega, hjn, Lib.hid ⟨_, hR1, by rw [HK.out]; exact HL.out.left hij HMI.out⟩, hO.trans hO1⟩
           case measure => simp [intOf]; omega)
end Go.Proofs.Ytnldnjgnpdicnaa
