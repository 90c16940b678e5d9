/- Regions: the shades of arcs. -/
import Derived.Test.YtmfbbbnenngehaaA6
import Derived.Test.YtmfbbbnenngehaaAB
import Derived.Test.YtmfbbbnenngehaaB6
import Derived.Test.YtmfbbbnenngehaaRows
namespace Go.Proofs.Ytmfbbbnenngehaa
open Go.RowKit
set_option linter.unusedVariables false

set_option maxHeartbeats 1000000 in
theorem core_ShadesOfArcs (p : Int) (v : Value) (xs : List (Int × Int)) (x : ByteArray) (b : Bool) (w : World) (hA : ArgP w v xs) (hn : xs.length ≤ 1048576)
    (hs : ∀ (W : World) (u : Value) (B T : Nat), PairsIn 59 W B T u xs → T ≤ W.heap.size → Calls Try.prog 30 #[.int .i64 p, u] W (fun e w' => e = .returned (.tuple #[.string x, .bool b]) ∧ Below W.heap.size W w'))
    (hi : ∀ (W : World) (u : Value) (B T : Nat), PairsIn 59 W B T u xs → T ≤ W.heap.size → Calls Try.prog 31 #[.int .i64 p, u] W (fun e w' => e = .returned (.tuple #[.string x, .bool b]) ∧ Below W.heap.size W w')) :
    Calls Try.prog 9 #[.int .i64 p, v] w fun e w' => e = .returned (.bool true) ∧ Below w.heap.size w w' := by
  have hA1 := hA
  obtain ⟨a0, cap, a, rfl, _⟩ := hA1
  have HS := Lib.hid hs
  have HI := Lib.hid hi
  have HA := Lib.hid hA
  clear hs hi hA
  go_enter Try.func9, Try.ntmps9
  go_wp2_with fail
  refine (szChordS_yes _ _ _ _ hn).mono ?_
  rintro e w0 ⟨rfl, rfl⟩
  go_wp2_with fail
  refine (toChordS_any _ _ _ (HA.out.later (by go_grown)) hn).mono ?_
  rintro e w1 ⟨va, rfl, ka_1, hb1⟩
  have n1 : w.heap.size ≤ w1.heap.size := by have := hb1.size; (try simp at this); omega
  have B1 : Below w.heap.size w w1 := Below.trans (by go_grown) (hb1.mono (by first | (simp; done) | (simp; omega)))
  go_wp2_with fail
  refine (HS.out _ _ _ _ ka_1 (by omega)).mono ?_
  rintro e w2 ⟨rfl, hb2⟩
  have n2 := hb2.size
  have B2 := B1.trans (hb2.mono (by omega))
  have ka_2 := ka_1.keep (belowSame hb2 (by omega))
  go_wp2_with fail
  refine (toChordS_any _ _ _ (HA.out.later B2) hn).mono ?_
  rintro e w3 ⟨vc, rfl, kc_3, hb3⟩
  have n3 := hb3.size
  have B3 := B2.trans (hb3.mono (by omega))
  have ka_3 := ka_2.keep (belowSame hb3 (by omega))
  go_wp2_with fail
  refine (HI.out _ _ _ _ kc_3 (by omega)).mono ?_
  rintro e w4 ⟨rfl, hb4⟩
  have n4 := hb4.size
  have B4 := B3.trans (hb4.mono (by omega))
  have ka_4 := ka_3.keep (belowSame hb4 (by omega))
  have kc_4 := kc_3.keep (belowSame hb4 (by omega))
  go_wp2_with fail
  refine (toChordS_any _ _ _ (HA.out.later B4) hn).mono ?_
  rintro e w5 ⟨vd, rfl, kd_5, hb5⟩
  have n5 := hb5.size
  have B5 := B4.trans (hb5.mono (by omega))
  have ka_5 := ka_4.keep (belowSame hb5 (by omega))
  have kc_5 := kc_4.keep (belowSame hb5 (by omega))
  go_wp2_with fail
  refine (eqChordS_in _ _ _ _ _ _ _ _ _ kc_5 kd_5).mono ?_
  rintro e w6 ⟨rfl, hb6⟩
  have n6 := hb6.size
  have B6 := B5.trans (hb6.mono (by omega))
  have ka_6 := ka_5.keep (belowSame hb6 (by omega))
  have kc_6 := kc_5.keep (belowSame hb6 (by omega))
  have kd_6 := kd_5.keep (belowSame hb6 (by omega))
  go_wp2_with fail
  go_ret
  exact ⟨rfl, B6⟩

set_option maxHeartbeats 400000 in
theorem long_ShadesOfArcs (p : Int) (v : Value) (xs : List (Int × Int)) (w : World) (hA : ArgP w v xs) (hn : ¬ xs.length ≤ 1048576) :
    Calls Try.prog 9 #[.int .i64 p, v] w fun e w' => e = .returned (.bool true) ∧ Below w.heap.size w w' := by
  obtain ⟨a0, cap, a, rfl, _, hm, _⟩ := hA
  go_enter Try.func9, Try.ntmps9
  go_wp2_with fail
  refine (szChordS_no _ _ _ _ (by omega) hm).mono ?_
  rintro e w0 ⟨rfl, rfl⟩
  go_wp2_with fail
  go_ret
  exact ⟨rfl, by go_grown⟩

/-- The shade of an arc, and those of the first ones. -/
def shade (xs : List (Int × Int)) (i : Nat) : UInt8 := if partedL 0 i xs % 2 = 1 then 100 else 108
def shadesL (xs : List (Int × Int)) (k : Nat) : List UInt8 := (List.range k).map (shade xs)
theorem shadesL_length (xs : List (Int × Int)) (k : Nat) : (shadesL xs k).length = k := by simp [shadesL]
theorem shadesL_succ (xs : List (Int × Int)) (k : Nat) : shadesL xs (k + 1) = shadesL xs k ++ [shade xs k] := by simp [shadesL, List.range_succ]

theorem info_byteA : (Try.prog.info? 5).map (fun i => (i.zero, i.size, i.bytes)) = some (some (.int .u8 0), 1, 1) := by kernel_rfl

/-- So many shades stand in the bytes. -/
def shadeB (xs : List (Int × Int)) (n k : Nat) : List Int := fillG (fun i => ((shade xs i).toNat : Int)) 0 n k
theorem shadeB_length (xs : List (Int × Int)) (n k : Nat) (h : k ≤ n) : (shadeB xs n k).length = n := fillG_length _ _ _ _ h
theorem shadeB_light (xs : List (Int × Int)) (n k : Nat) (h : k < n) (hs : shade xs k = 108) : (shadeB xs n k).set k 108 = shadeB xs n (k + 1) := by
  have := fillG_set (fun i => ((shade xs i).toNat : Int)) 0 n k h
  rw [hs] at this
  exact this
theorem shadeB_dark (xs : List (Int × Int)) (n k : Nat) (h : k < n) (hs : shade xs k = 100) : ((shadeB xs n k).set k 108).set k 100 = shadeB xs n (k + 1) := by
  have := fillG_set (fun i => ((shade xs i).toNat : Int)) 0 n k h
  rw [hs] at this
  rw [List.set_set]
  exact this
theorem shadeB_all (xs : List (Int × Int)) (n : Nat) : shadeB xs n n = (shadesL xs n).map fun b => (b.toNat : Int) := by
  unfold shadeB shadesL
  rw [fillG_all, List.map_map]
  rfl

set_option maxHeartbeats 2000000 in
set_option maxRecDepth 100000 in
theorem shadesD_any (n : Nat) (a0 : Option Addr) (cap : Nat) (xs : List (Int × Int)) (B T : Nat) (w : World) (h : PairsIn 59 w B T (.slice a0 xs.length cap) xs) (hT : T ≤ w.heap.size) (hn3 : 3 ≤ n ∧ n ≤ 60) (hl : xs.length ≤ 40) :
    Calls Try.prog 67 #[.agg #[.int .i64 n, .slice a0 xs.length cap]] w fun e w' => e = .returned (.string (strL (shadesL xs n))) ∧ Below w.heap.size w w' := by
  have hmk := make_bytes (P := Try.prog) Try.underlying92 info_byteA n (by omega)
  have HH := Lib.hid h
  have H0 : BytAt 5 ((w.alloc (.cells #[.int .i64 n, .slice a0 xs.length cap] 66)).alloc (.cells (byteCells (List.replicate n 0)) 5)) (w.heap.size + 1) (shadeB xs n 0) := by
    unfold BytAt shadeB
    rw [fillG_zero]
    have := heap_alloc_new (w.alloc (.cells #[.int .i64 n, .slice a0 xs.length cap] 66)) (.cells (byteCells (List.replicate n 0)) 5)
    rwa [World.size_alloc] at this
  have HH0 := Lib.hid H0
  clear h H0
  go_enter Try.func67, Try.ntmps67
  go_wp2
  go_loopw [10] (fun i wr => ∃ k : Nat, k ≤ n ∧ i = .int .i64 k ∧ BytAt 5 wr (w.heap.size + 1) (shadeB xs n k) ∧ Below w.heap.size w wr ∧ wr.cell? ⟨w.heap.size, 0, none⟩ = some (.int .i64 n) ∧ wr.cell? ⟨w.heap.size, 1, none⟩ = some (.slice a0 xs.length cap) ∧ w.heap.size + 1 < wr.heap.size) (fun i _ => n - (intOf i).toNat)
  case atStart => exact ⟨0, by omega, rfl, HH0.out, by go_grown, by go_simp, by go_simp, by simp⟩
  case round =>
    obtain ⟨k, hk, rfl, hI, hB, p0, p1, hz⟩ := hrel
    have hz0 := hB.size
    by_cases hlt : k < n
    · have hlen := shadeB_length xs n k (by omega)
      have fr := hI.frozen k
      have cc := hI.cell k (by omega)
      have hle := partedL_le 0 k xs
      have hS1 : BytAt 5 (wr.setCell ⟨w.heap.size + 1, k, none⟩ (.int .u8 108)) (w.heap.size + 1) ((shadeB xs n k).set k 108) := hI.stored k 108
      have hB1 : Below w.heap.size w (wr.setCell ⟨w.heap.size + 1, k, none⟩ (.int .u8 108)) := hB.setCell (by simp) _
      have q0 : (wr.setCell ⟨w.heap.size + 1, k, none⟩ (.int .u8 108)).cell? ⟨w.heap.size, 0, none⟩ = some (.int .i64 n) := by go_simp
      have q1 : (wr.setCell ⟨w.heap.size + 1, k, none⟩ (.int .u8 108)).cell? ⟨w.heap.size, 1, none⟩ = some (.slice a0 xs.length cap) := by go_simp
      obtain ⟨m, hm⟩ : ∃ m, partedL 0 k xs = m := ⟨_, rfl⟩
      have hsh : shade xs k = if m % 2 = 1 then 100 else 108 := by unfold shade; rw [hm]
      rw [hm] at hle
      have HM := Lib.hid hm
      have HSH := Lib.hid hsh
      have HS1 := Lib.hid hS1
      have HB1 := Lib.hid hB1
      have Q0 := Lib.hid q0
      have Q1 := Lib.hid q1
      have n0 : (0 : Int) ≤ (m : Int) := by omega
      clear hm hsh hS1 hB1 q0 q1 hI
      by_cases hodd : m % 2 = 1
      · have e4 : (((m : Int) % 2) == 1) = true := beq_iff_eq.2 (by omega)
        have HD := Lib.hid (shadeB_dark xs n k hlt (HSH.out.trans (if_pos hodd)))
        clear hodd
        go_wp2_with (first | (go_at_call 65; (refine (countParting_any n _ _ xs B T _ (HH.out.keep (belowSame HB1.out hT)) (Nat.le_trans hT HB1.out.size) 0 k (by omega)).mono ?_); rw [HM.out]; rintro e w1 ⟨rfl, hb1⟩; (have hs1 := HS1.out.keep hb1); (have fr2 := hs1.frozen k); (have cc2 := hs1.cell k (by simp; omega)); (have hB2 := HB1.out.trans (hb1.mono (by simp; omega))); (have r0 := cellB hb1 Q0.out); (have r1 := cellB hb1 Q1.out); (have hz2 := hb1.size); (have HS2 := Lib.hid hs1); clear hs1))
        go_roundw
        case rel => exact ⟨k + 1, by omega, by go_num, by rw [← HD.out]; exact HS2.out.stored k 100, hB2.setCell (by simp) _, by go_simp, by go_simp, by simp at hz2 ⊢; omega⟩
        case measure => simp [intOf]; omega
      · have e4 : (((m : Int) % 2) == 1) = false := beq_eq_false_iff_ne.2 (by omega)
        have HD := Lib.hid (shadeB_light xs n k hlt (HSH.out.trans (if_neg hodd)))
        clear hodd
        go_wp2_with (first | (go_at_call 65; (refine (countParting_any n _ _ xs B T _ (HH.out.keep (belowSame HB1.out hT)) (Nat.le_trans hT HB1.out.size) 0 k (by omega)).mono ?_); rw [HM.out]; rintro e w1 ⟨rfl, hb1⟩; (have hs1 := HS1.out.keep hb1); (have hB2 := HB1.out.trans (hb1.mono (by simp; omega))); (have r0 := cellB hb1 Q0.out); (have r1 := cellB hb1 Q1.out); (have hz2 := hb1.size); (have HS2 := Lib.hid hs1); clear hs1))
        go_roundw
        case rel => exact ⟨k + 1, by omega, by go_num, by rw [← HD.out]; exact HS2.out, hB2, by assumption, by assumption, by simp at hz2 ⊢; omega⟩
        case measure => simp [intOf]; omega
    · obtain rfl : k = n := by omega
      have hcell : ∀ i, i < k → wr.cell? ⟨w.heap.size + 1, 0 + i, none⟩ = some (.int .u8 (((shadesL xs k).map fun b => (b.toNat : Int)).getD i 0)) := fun i hi => by
        rw [Nat.zero_add, ← shadeB_all]
        exact hI.cell i (by rw [shadeB_length xs k k (by omega)]; exact hi)
      have hcv := run_convert_bytes_arg (P := Try.prog) wr 92 5 Try.underlying92 Try.underlying5 (w.heap.size + 1) 0 k k ((shadesL xs k).map fun b => (b.toNat : Int)) (by simp [shadesL_length]) hcell 9 Try.underlying9
      rw [strOfNums_strL] at hcv
      have HB := Lib.hid hB
      clear hcell hI hmk
      go_wp2
      go_ret
      exact ⟨rfl, HB.out⟩

set_option maxHeartbeats 400000 in
theorem told_shades (n : Nat) (a0 : Option Addr) (cap : Nat) (xs : List (Int × Int)) (B T : Nat) (w : World) (h : PairsIn 59 w B T (.slice a0 xs.length cap) xs) (hT : T ≤ w.heap.size) (hg : goodC n xs) :
    Calls Try.prog 66 #[.int .i64 n, .slice a0 xs.length cap, .func (.func 49) #[] #[], .func (.func 67) #[] #[]] w fun e w' => e = .returned (.tuple #[.string (strL (shadesL xs n)), .bool true]) ∧ Below w.heap.size w w' := by
  have hl := hg.2.1
  have hp := hg.1
  go_enter Try.func66, Try.ntmps66
  go_wp2_with (first | (go_at_call 49; (with_reducible refine (isDisc_yes n _ _ xs B T _ (h.keep (belowSame (by go_grown) hT)) (Nat.le_trans hT (by first | (simp; done) | (simp; omega))) hg).mono ?_); rintro e w1 ⟨rfl, hb1⟩; (have c0 : w1.cell? ⟨w.heap.size, 0, none⟩ = some (.int .i64 n) := cellB hb1 (by go_simp)); (have c1 : w1.cell? ⟨w.heap.size, 1, none⟩ = some (.slice a0 xs.length cap) := cellB hb1 (by go_simp)); (have hB1 : Below w.heap.size w w1 := Below.trans (by go_grown) (hb1.mono (by first | omega | (simp; done) | (simp; omega)))); have hz1 := hB1.size) | (go_at_call 67; (with_reducible refine (shadesD_any n _ _ xs B T _ (h.keep (belowSame hB1 hT)) (by omega) (by omega) hl).mono ?_); rintro e w2 ⟨rfl, hb2⟩))
  go_ret2
  exact ⟨rfl, hB1.trans (hb2.mono hz1)⟩

set_option maxHeartbeats 400000 in
theorem iShades_yes (n : Nat) (a0 : Option Addr) (cap : Nat) (xs : List (Int × Int)) (B T : Nat) (w : World) (h : PairsIn 59 w B T (.slice a0 xs.length cap) xs) (hT : T ≤ w.heap.size) (hg : goodC n xs) :
    Calls Try.prog 31 #[.int .i64 n, .slice a0 xs.length cap] w fun e w' => e = .returned (.tuple #[.string (strL (shadesL xs n)), .bool true]) ∧ Below w.heap.size w w' := by
  go_enter Try.func31, Try.ntmps31
  go_wp2_with (first | (go_at_call 66; (with_reducible refine (told_shades n _ _ xs B T _ h hT hg).mono ?_); rintro e w1 ⟨rfl, hb1⟩))
  go_ret2
  exact ⟨rfl, hb1⟩

set_option maxHeartbeats 400000 in
theorem iShades_no (p : Int) (a0 : Option Addr) (cap : Nat) (xs : List (Int × Int)) (B T : Nat) (w : World) (h : PairsIn 59 w B T (.slice a0 xs.length cap) xs) (hT : T ≤ w.heap.size) (hg : ¬ goodC p xs) :
    Calls Try.prog 31 #[.int .i64 p, .slice a0 xs.length cap] w fun e w' => e = .returned (.tuple #[.string (strL []), .bool false]) ∧ Below w.heap.size w w' := by
  go_enter Try.func31, Try.ntmps31
  go_wp2_with (first | (go_at_call 66; (with_reducible refine (told_no_string_disc p _ _ xs B T _ h hT _ hg).mono ?_); rintro e w1 ⟨rfl, hb1⟩))
  go_ret2
  exact ⟨rfl, hb1⟩

set_option maxHeartbeats 1000000 in
theorem sShades_yes (n : Nat) (a0 : Option Addr) (cap : Nat) (xs : List (Int × Int)) (B T : Nat) (w : World) (h : PairsIn 59 w B T (.slice a0 xs.length cap) xs) (hT : T ≤ w.heap.size) (hg : goodC n xs) :
    Calls Try.prog 30 #[.int .i64 n, .slice a0 xs.length cap] w fun e w' => e = .returned (.tuple #[.string (strL (shadesL xs n)), .bool true]) ∧ Below w.heap.size w w' := by
  have hl := hg.2.1
  have hp := hg.1
  have hbd : ∀ k, k < xs.length → 0 ≤ (xs.getD k (0, 0)).2 ∧ (xs.getD k (0, 0)).2 ≤ 60 := fun k hk => by have := (hg.2.2 k hk).1; omega
  have HBD := Lib.hid hbd
  have HH := Lib.hid h
  have HG := Lib.hid hg
  clear hbd h hg
  go_enter Try.func30, Try.ntmps30
  go_wp2_with (first | (go_at_call 45; (with_reducible refine (cdGood_yes n _ xs B T _ HH.out HG.out).mono ?_); rintro e w1 ⟨rfl, hb1⟩; have hz1 := hb1.size))
  go_loopw [6, 7] (fun s i wr => ∃ k : Nat, k ≤ n ∧ i = .int .i64 k ∧ s = .string (strL (shadesL xs k)) ∧ Below w.heap.size w wr) (fun _ i _ => n - (intOf i).toNat)
  case atStart => exact ⟨0, by omega, rfl, rfl, hb1⟩
  case round =>
    obtain ⟨k, hk, rfl, rfl, hB⟩ := hrel
    have hz := hB.size
    by_cases hlt : k < n
    · have hle := partedL_le 0 k xs
      have hlen := shadesL_length xs k
      have hadd1 := strAddS (shadesL xs k) [108] (by simp; omega)
      have hadd2 := strAddS (shadesL xs k) [100] (by simp; omega)
      have hadd1' : Op.stringOp .add (strL (shadesL xs k)) ⟨#[108]⟩ = pure (.string (strL (shadesL xs k ++ [108]))) := hadd1
      have hadd2' : Op.stringOp .add (strL (shadesL xs k)) ⟨#[100]⟩ = pure (.string (strL (shadesL xs k ++ [100]))) := hadd2
      obtain ⟨m, hm⟩ : ∃ m, partedL 0 k xs = m := ⟨_, rfl⟩
      have hsh : shade xs k = if m % 2 = 1 then 100 else 108 := by unfold shade; rw [hm]
      rw [hm] at hle
      have HM := Lib.hid hm
      have HSH := Lib.hid hsh
      have HST := Lib.hid (shadesL_succ xs k)
      have n0 : (0 : Int) ≤ (m : Int) := by omega
      clear hm hsh hadd1 hadd2 hlen
      by_cases hodd : m % 2 = 1
      · have e4 : (((m : Int) % 2) == 0) = false := beq_eq_false_iff_ne.2 (by omega)
        have HD := Lib.hid (HSH.out.trans (if_pos hodd))
        clear hodd
        go_wp2_with (first | (go_at_call 62; (refine (reParted_any _ xs 0 k B T _ (HH.out.keep (belowSame hB hT)) HBD.out (by omega)).mono ?_); rw [HM.out]; rintro e w2 ⟨rfl, hb2⟩; have hB2 := hB.trans (hb2.mono hz)))
        go_roundw
        case rel => exact ⟨k + 1, by omega, by go_num, by rw [HST.out, HD.out], hB2⟩
        case measure => simp [intOf]; omega
      · have e4 : (((m : Int) % 2) == 0) = true := beq_iff_eq.2 (by omega)
        have HD := Lib.hid (HSH.out.trans (if_neg hodd))
        clear hodd
        go_wp2_with (first | (go_at_call 62; (refine (reParted_any _ xs 0 k B T _ (HH.out.keep (belowSame hB hT)) HBD.out (by omega)).mono ?_); rw [HM.out]; rintro e w2 ⟨rfl, hb2⟩; have hB2 := hB.trans (hb2.mono hz)))
        go_roundw
        case rel => exact ⟨k + 1, by omega, by go_num, by rw [HST.out, HD.out], hB2⟩
        case measure => simp [intOf]; omega
    · obtain rfl : k = n := by omega
      go_wp2
      go_ret2
      exact ⟨rfl, hB⟩

set_option maxHeartbeats 400000 in
theorem sShades_no (p : Int) (a0 : Option Addr) (cap : Nat) (xs : List (Int × Int)) (B T : Nat) (w : World) (h : PairsIn 59 w B T (.slice a0 xs.length cap) xs) (hT : T ≤ w.heap.size) (hg' : ¬ goodC p xs) :
    Calls Try.prog 30 #[.int .i64 p, .slice a0 xs.length cap] w fun e w' => e = .returned (.tuple #[.string (strL []), .bool false]) ∧ Below w.heap.size w w' := by
  go_enter Try.func30, Try.ntmps30
  go_wp2_with (first | (go_at_call 45; (with_reducible refine (cdGood_no p _ xs B T _ h hg').mono ?_); rintro e w1 ⟨rfl, hb1⟩))
  go_ret2
  exact ⟨rfl, hb1⟩

theorem walk_ShadesOfArcs (p : Int) (v : Value) (xs : List (Int × Int)) (w : World) (_ : (Lit.int .i64 p).wf = true) (hA : ArgP w v xs) :
    Calls Try.prog 9 #[.int .i64 p, v] w fun e w' => e = .returned (.bool true) ∧ Below w.heap.size w w' := by
  by_cases hn : xs.length ≤ 1048576
  · by_cases hg : goodC p xs
    · obtain ⟨n, rfl⟩ := Int.eq_ofNat_of_zero_le (show 0 ≤ p by have := hg.1; omega)
      exact core_ShadesOfArcs _ v xs _ _ w hA hn (fun W u B T h hT => by obtain ⟨a0, cap, g0, rfl, _⟩ := h.pairs.view; exact sShades_yes n a0 cap xs B T W h hT hg) (fun W u B T h hT => by obtain ⟨a0, cap, g0, rfl, _⟩ := h.pairs.view; exact iShades_yes n a0 cap xs B T W h hT hg)
    · exact core_ShadesOfArcs p v xs _ _ w hA hn (fun W u B T h hT => by obtain ⟨a0, cap, g0, rfl, _⟩ := h.pairs.view; exact sShades_no p a0 cap xs B T W h hT hg) (fun W u B T h hT => by obtain ⟨a0, cap, g0, rfl, _⟩ := h.pairs.view; exact iShades_no p a0 cap xs B T W h hT hg)
  · exact long_ShadesOfArcs p v xs w hA hn
end Go.Proofs.Ytmfbbbnenngehaa
