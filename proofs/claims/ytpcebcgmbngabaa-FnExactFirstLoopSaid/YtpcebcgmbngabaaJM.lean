/- The first one of all loops that are the same: the model, and the laws of FirstLoop and SameLoops. -/
import Derived.Test.YtpcebcgmbngabaaJF
import Derived.Test.YtpcebcgmbngabaaJI
namespace Go.Proofs.Ytpcebcgmbngabaa
open Go.RowKit
set_option linter.unusedVariables false

theorem anew_ascii (X : List UInt8) (h16 : X.length ≤ 16) (j : Nat) (hj : j < X.length) : ((anewL X).getD j 0).toNat < 128 := by
  rw [anewL_get X j hj]
  have h1 := anewTo_mem X X.length j hj
  have h2 := List.idxOf_lt_length_iff.2 h1
  have h3 := (anewTo_len X X.length).2.1
  rw [lt8_nat _ (by omega)]
  omega

/-- The two loops of which the model takes the turns, and the best one ahead of each. -/
def fromL (L : List UInt8) (i : Nat) : List UInt8 := if i = 0 then L else backL L

def bestL (L : List UInt8) : Nat → List UInt8
  | 0 => L
  | i + 1 => minOf (turnsL (fromL L i)) (bestL L i)

theorem bestL_two (L : List UInt8) : bestL L 2 = firstL L := rfl

theorem fromL_len (L : List UInt8) (i : Nat) : (fromL L i).length = L.length := by
  unfold fromL
  split
  · rfl
  · exact backL_length L

theorem str_less (x y : List UInt8) : Op.bytesLess (txL x).toList (txL y).toList = decide (x < y) := by
  rw [Lib.toList_data, Lib.toList_data, Proofs.bytesLess_eq]
  rfl

set_option maxHeartbeats 4000000 in
set_option maxRecDepth 100000 in
theorem loFirst_any (t : ByteArray) (w : World) (ht : t.size ≤ 16) (ha : anewL t.data.toList = t.data.toList) :
    Calls Try.prog 63 #[.string t] w fun e w' => e = .returned (.string (txL (firstL t.data.toList))) ∧ Below w.heap.size w w' := by
  have hlen := tx_len t
  have HE : Hid (bestL t.data.toList 2 = firstL t.data.toList) := Lib.hid rfl
  have H0 : bestL t.data.toList 0 = t.data.toList := rfl
  have HS := Lib.hid (fun i => show bestL t.data.toList (i + 1) = minOf (turnsL (fromL t.data.toList i)) (bestL t.data.toList i) from rfl)
  have HFL := Lib.hid (fun i => show (fromL t.data.toList i).length = t.size by rw [fromL_len, hlen])
  have HAS := Lib.hid (fun i j (hj : j < (txL (fromL t.data.toList i)).size) => show ((txL (fromL t.data.toList i))[j]'hj).toNat < 128 by
    rw [txL_get]
    have hj2 : j < t.data.toList.length := by rw [txL_size, fromL_len] at hj; exact hj
    unfold fromL
    split
    · rw [← ha]; exact anew_ascii _ (by omega) j hj2
    · exact anew_ascii _ (by rw [List.length_reverse]; omega) j (by rw [List.length_reverse]; exact hj2))
  have HF0 : fromL t.data.toList 0 = t.data.toList := rfl
  have HF1 : fromL t.data.toList 1 = backL t.data.toList := rfl
  have htx : txL t.data.toList = t := rfl
  have HBK := Lib.hid (fun W => show Calls Try.prog 60 #[.string t] W fun e w' => e = .returned (.string (txL (fromL t.data.toList 1))) ∧ Below W.heap.size W w' from loBack_any t W ht)
  have hT : t = txL (fromL t.data.toList 0) := rfl
  obtain ⟨F, hF⟩ : ∃ F, fromL t.data.toList = F := ⟨_, rfl⟩
  obtain ⟨B, hBB⟩ : ∃ B, bestL t.data.toList = B := ⟨_, rfl⟩
  obtain ⟨R, hR⟩ : ∃ R, firstL t.data.toList = R := ⟨_, rfl⟩
  rw [hR] at HE ⊢
  rw [hBB] at HE H0 HS
  rw [hF] at HS HFL HAS HBK hT
  have HT := Lib.hid hT
  have HB0 := Lib.hid (show t = txL (B 0) by rw [H0]; rfl)
  obtain ⟨z, hz⟩ : ∃ z, t.size = z := ⟨_, rfl⟩
  rw [hz] at HFL ht
  clear hF hBB hR hT hlen H0 HF0 HF1 htx hz ha
  go_enter Try.func63, Try.ntmps63
  go_wp2_with (first | (go_at_call 60; (with_reducible refine (HBK.out _).mono ?_); rintro e w1 ⟨rfl, hb1⟩))
  have hz1 := hb1.size
  have HB1 := Lib.hid hb1
  clear hb1
  have HC : Hid (∀ i, i < 2 → (w1.alloc (.cells #[.string t, .string (txL (F 1))] 9)).cell? ⟨w1.heap.size, i, none⟩ = some (.string (txL (F i)))) := Lib.hid (fun i hi => by
    rcases (by omega : i = 0 ∨ i = 1) with rfl | rfl
    · rw [← HT.out]; go_simp
    · go_simp)
  go_loopw [3, 14] (fun b i wr => ∃ q : Nat, q ≤ 2 ∧ i = .int .i64 q ∧ b = .string (txL (B q)) ∧ Below (w1.heap.size + 1) (w1.alloc (.cells #[.string t, .string (txL (F 1))] 9)) wr) (fun _ i _ => 2 - (intOf i).toNat)
  case atStart => exact ⟨0, by omega, rfl, by rw [← HB0.out], Below.refl _ _⟩
  case round =>
    obtain ⟨wo, rfl⟩ : ∃ z, z = wr := ⟨wr, rfl⟩
    obtain ⟨q, hq, rfl, rfl, hB⟩ := hrel
    have hzo := hB.size
    rw [World.size_alloc] at hzo
    have HB := Lib.hid hB
    by_cases hlt : q < 2
    · have q0 : 0 ≤ (q : Int) := by omega
      have q1 : (q : Int) < 2 := by omega
      have hc := (hB.cell (p := ⟨w1.heap.size, q, none⟩) (by simp)).trans (HC.out q hlt)
      have hfs : (txL (F q)).size = z := by rw [txL_size]; exact HFL.out q
      have HASq := Lib.hid (fun j (hj : j < (txL (F q)).size) => HAS.out q j hj)
      have HAD := Lib.hid (fun k (hk : k ≤ z) => show Op.stringOp .add ((txL (F q)).extract k (txL (F q)).size) ((txL (F q)).extract 0 k) = pure (.string (txL (rotL (F q) k))) by
        have := rot_add (txL (F q)) k (by rw [hfs]; exact hk)
        rw [show (txL (F q)).data.toList = F q from rfl] at this
        rw [← this]
        exact txAdd _ _ (by rw [ByteArray.size_extract, ByteArray.size_extract]; omega))
      have HAN := Lib.hid (fun k W => show Calls Try.prog 57 #[.string (txL (rotL (F q) k))] W fun e w' => e = .returned (.string (txL (anewL (rotL (F q) k)))) ∧ Below W.heap.size W w' from
        loAnew_any (txL (rotL (F q) k)) W (by rw [txL_size, rotL_length, HFL.out q]; exact ht))
      have HTK := Lib.hid (fun k (hk : k < z) => turnsL_take (F q) k (by rw [HFL.out q]; exact hk))
      have HTA := Lib.hid (show (turnsL (F q)).take z = turnsL (F q) from List.take_of_length_le (by rw [turnsL_length, HFL.out q]; exact Nat.le_refl _))
      have HSQ := Lib.hid (HS.out q)
      obtain ⟨b0, hb0⟩ : ∃ b0, B q = b0 := ⟨_, rfl⟩
      rw [hb0] at HSQ
      obtain ⟨X, hX⟩ : ∃ X, txL (F q) = X := ⟨_, rfl⟩
      rw [hX] at hc hfs HASq HAD
      have hw2 : IntKind.i64.wrap ((q : Int) + 1) = (q : Int) + 1 := by rw [IntKind.wrap_i64]; omega
      rw [hb0]
      clear hX hb0 hB
      go_wp2
      go_loopw [3] (fun b wr => ∃ k : Nat, k ≤ z ∧ b = .string (txL (minOf ((turnsL (F q)).take k) b0)) ∧ wr.heap[wo.heap.size]? = some (.stringIter X k) ∧ Below wo.heap.size wo wr) (fun _ wr => z - wr.iterPos wo.heap.size)
      case atStart => exact ⟨0, by omega, rfl, World.iter_heap wo X 0, (Below.refl _ _).alloc (Nat.le_refl _) _⟩
      case round =>
        obtain ⟨wi, rfl⟩ : ∃ z, z = wr := ⟨wr, rfl⟩
        obtain ⟨k, hk, rfl, hit, hBi⟩ := hrel
        have hip : wi.iterPos wo.heap.size = k := by unfold World.iterPos; rw [hit]
        have HIP := Lib.hid hip
        clear hip
        by_cases hlk : k < z
        · have hlX : k < X.size := by omega
          have hnx : ∀ ty, (Instr.next (.pointer (some ⟨wo.heap.size, 0, none⟩)) true ty).run Try.prog wi = _ := fun ty => Lib.run_next_ascii_at wi wo.heap.size X k ty hit hlX (HASq.out k hlX)
          have hit2 := Lib.iterAt_heap wi wo.heap.size X k (k + 1) hit
          have hbw2 := Lib.below_iterAt hBi (k := wo.heap.size) (Nat.le_refl _) X (k + 1)
          have hadd := HAD.out k (by omega)
          rw [hfs] at hadd
          have k0 : 0 ≤ (k : Int) := by omega
          have k1 : (k : Int) ≤ (z : Int) := by omega
          have htk := HTK.out k hlk
          obtain ⟨c, hc2⟩ : ∃ c, anewL (rotL (F q) k) = c := ⟨_, rfl⟩
          obtain ⟨bk, hbk⟩ : ∃ bk, minOf ((turnsL (F q)).take k) b0 = bk := ⟨_, rfl⟩
          have hnew : minOf ((turnsL (F q)).take (k + 1)) b0 = minL bk c := by rw [htk, minOf_snoc, hbk, hc2]
          have HNEW := Lib.hid hnew
          have HANk := Lib.hid (fun W => show Calls Try.prog 57 #[.string (txL (rotL (F q) k))] W fun e w' => e = .returned (.string (txL c)) ∧ Below W.heap.size W w' by rw [← hc2]; exact HAN.out k W)
          rw [hbk]
          have keepI : ∀ W W' : World, (W.heap[wo.heap.size]? = some (.stringIter X (k + 1)) ∧ Below wo.heap.size wo W) → Below W.heap.size W W' → (W'.heap[wo.heap.size]? = some (.stringIter X (k + 1)) ∧ Below wo.heap.size wo W') :=
            fun W W' h hb => ⟨(hb.block wo.heap.size (Array.getElem?_eq_some_iff.1 h.1).1).trans h.1, h.2.trans (hb.mono h.2.size)⟩
          have hS0 : (wi.iterAt wo.heap.size X (k + 1)).heap[wo.heap.size]? = some (.stringIter X (k + 1)) ∧ Below wo.heap.size wo (wi.iterAt wo.heap.size X (k + 1)) := ⟨hit2, hbw2⟩
          have KI := Lib.hid keepI
          have hS1 : (wi.iterAt wo.heap.size X (k + 1)).drew.heap[wo.heap.size]? = some (.stringIter X (k + 1)) ∧ Below wo.heap.size wo (wi.iterAt wo.heap.size X (k + 1)).drew := ⟨hS0.1, bdn hS0.2 1⟩
          obtain ⟨Z, hZ⟩ : ∃ Z, txL (rotL (F q) k) = Z := ⟨_, rfl⟩
          rw [hZ] at hadd HANk
          clear hit2 hbw2 hBi hit htk hc2 hbk hnew keepI hZ
          go_wp2
          go_region_held3 (fun w' => w'.heap[wo.heap.size]? = some (.stringIter X (k + 1)) ∧ Below wo.heap.size wo w') (first | with_reducible exact hS1.1 | with_reducible exact hS1.2 | with_reducible exact hS4.1 | with_reducible exact hS4.2 | assumption)
            (first | (go_at_call 57; (refine (HANk.out _).mono ?_); rintro e w4 ⟨rfl, hb4⟩; (have hS4 := KI.out _ _ (by first | exact hHeld | exact hS1) hb4)))
          all_goals
            by_cases hcb : c < bk
            · have hbl : Op.bytesLess (txL c).toList (txL bk).toList = true := by rw [str_less]; exact decide_eq_true hcb
              have HN2 := Lib.hid (show minOf ((turnsL (F q)).take (k + 1)) b0 = c by rw [HNEW.out, minL, if_pos hcb])
              clear hcb
              go_wp2
              go_roundw
              case rel => exact ⟨k + 1, by omega, by rw [HN2.out], hS4.1, hS4.2⟩
              case measure =>
                have h1 : w4.iterPos wo.heap.size = k + 1 := by unfold World.iterPos; rw [hS4.1]
                rw [h1, HIP.out]
                omega
            · have hbl : Op.bytesLess (txL c).toList (txL bk).toList = false := by rw [str_less]; exact decide_eq_false hcb
              have HN2 := Lib.hid (show minOf ((turnsL (F q)).take (k + 1)) b0 = bk by rw [HNEW.out, minL, if_neg hcb])
              clear hcb
              go_wp2
              go_roundw
              case rel => exact ⟨k + 1, by omega, by rw [HN2.out], hS4.1, hS4.2⟩
              case measure =>
                have h1 : w4.iterPos wo.heap.size = k + 1 := by unfold World.iterPos; rw [hS4.1]
                rw [h1, HIP.out]
                omega
        · obtain rfl : k = z := by omega
          have hlX : ¬ k < X.size := by omega
          have hnx : ∀ ty, (Instr.next (.pointer (some ⟨wo.heap.size, 0, none⟩)) true ty).run Try.prog wi = _ := fun ty => Lib.run_next_end_at wi wo.heap.size X k ty hit hlX
          have HBI := Lib.hid hBi
          clear hit hBi
          go_wp2
          go_roundw
          case rel => exact ⟨q + 1, by omega, by go_num, by rw [HSQ.out, HTA.out], HB.out.trans (HBI.out.mono (by omega))⟩
          case measure => simp [intOf]; omega
    · obtain rfl : q = 2 := by omega
      have HB2 := Lib.hid hB
      clear hB
      go_wp2
      go_ret
      exact ⟨by rw [HE.out]; rfl, HB1.out.trans (Below.trans (by go_grown) (HB2.out.mono (by omega)))⟩

theorem str_same (x y : List UInt8) : (((txL x).toList == (txL y).toList) : Bool) = decide (x = y) := by
  rw [Lib.toList_data, Lib.toList_data]
  show (x == y) = decide (x = y)
  by_cases h : x = y
  · rw [decide_eq_true h]; exact beq_iff_eq.2 h
  · rw [decide_eq_false h]; exact beq_eq_false_iff_ne.2 h

set_option maxHeartbeats 400000 in
theorem sFirstLoop_yes (t : ByteArray) (ps : List (Nat × Nat)) (w : World) (ht : t.size ≤ 1048576) (h : LoopP t.data.toList ps) (hg : goodL t.data.toList = true) :
    Calls Try.prog 31 #[.string t] w fun e w' => e = .returned (.tuple #[.string (txL (firstL t.data.toList)), .bool true]) ∧ Below w.heap.size w w' := by
  have HG := Lib.hid hg
  have h16 : t.size ≤ 16 := by rw [← tx_len]; exact ((goodL_iff _).1 hg).1
  have HA := Lib.hid h.anew
  clear hg h
  go_enter Try.func31, Try.ntmps31
  go_wp2_with (first | (go_at_call 39; (with_reducible refine (loGood_any t _ ht).mono ?_); rintro e w1 ⟨rfl, hb1⟩; rw [HG.out]) | (go_at_call 63; (with_reducible refine (loFirst_any t _ h16 HA.out).mono ?_); rintro e w2 ⟨rfl, hb2⟩))
  go_ret2
  exact ⟨rfl, hb1.trans (hb2.mono hb1.size)⟩

theorem first_good (t : ByteArray) (a0 : Option Addr) (n cap : Nat) (w : World) (hg : goodL t.data.toList = true) :
    Calls Try.prog 64 #[.agg #[.slice a0 n cap, .string t]] w fun e w' => e = .returned (.string (txL (firstL t.data.toList))) ∧ Below w.heap.size w w' := by
  obtain ⟨g1, _, _, g4⟩ := (goodL_iff _).1 hg
  have h1 := first_any t a0 n cap w (by rw [← tx_len]; exact g1)
  rw [show firstP t.data.toList = txL (firstL t.data.toList) by rw [← first_same _ g4]; rfl] at h1
  exact h1

set_option maxHeartbeats 1000000 in
theorem core_FirstLoop (t : ByteArray) (x : ByteArray) (y : Bool) (w : World) (ht0 : t.size ≤ 1048576)
    (hs : ∀ W : World, Calls Try.prog 31 #[.string t] W fun e w' => e = .returned (.tuple #[.string x, .bool y]) ∧ Below W.heap.size W w')
    (hi : ∀ W : World, Calls Try.prog 32 #[.string t] W fun e w' => e = .returned (.tuple #[.string x, .bool y]) ∧ Below W.heap.size W w') :
    Calls Try.prog 11 #[.string t] w fun e w' => e = .returned (.bool true) ∧ Below w.heap.size w w' := by
  have HS := Lib.hid hs
  have HI := Lib.hid hi
  have h0 : ¬ 1048576 < (t.size : Int) := by omega
  clear hs hi ht0
  go_enter Try.func11, Try.ntmps11
  go_wp2_with (first | (go_at_call 31; (with_reducible refine (HS.out _).mono ?_); rintro e w1 ⟨rfl, hb1⟩) | (go_at_call 32; (with_reducible refine (HI.out _).mono ?_); rintro e w2 ⟨rfl, hb2⟩))
  go_ret
  exact ⟨rfl, hb1.trans (hb2.mono hb1.size)⟩

set_option maxHeartbeats 400000 in
theorem long0_FirstLoop (t : ByteArray) (w : World)  (ht : 1048576 < (t.size : Int)) :
    Calls Try.prog 11 #[.string t] w fun e w' => e = .returned (.bool true) ∧ Below w.heap.size w w' := by
  go_enter Try.func11, Try.ntmps11
  go_wp2
  go_ret
  exact ⟨rfl, Below.refl _ _⟩

set_option maxHeartbeats 1000000 in
theorem told_first (t : ByteArray) (ps : List (Nat × Nat)) (w : World) (ht : t.size ≤ 1048576) (h8 : ps.length ≤ 8) (hl : loopL t.data.toList = some ps) :
    Calls Try.prog 61 #[.string t, .func (.func 64) #[] #[]] w fun e w' => e = .returned (.tuple #[.string (txL (firstL t.data.toList)), .bool true]) ∧ Below w.heap.size w w' := by
  have HL := Lib.hid hl
  have HLP := Lib.hid (loopL_some hl).1
  have HTS := Lib.hid (show t.size = 2 * ps.length ∧ ∀ k, k < ps.length → (ps.getD k (0, 0)).1 < (ps.getD k (0, 0)).2 ∧ (ps.getD k (0, 0)).2 < t.size from ⟨by rw [← tx_len]; exact HLP.out.len, fun k hk => by have h1 := HLP.out.lt k hk; have h2 := tx_len t; omega⟩)
  clear hl
  go_enter Try.func61, Try.ntmps61
  go_wp2_with (first | (go_at_call 40; (with_reducible refine (loopOf_yes t ps _ ht HL.out).mono ?_); rintro e w1 ⟨a0, cap, rfl, hP, hb1⟩; (have hz1 := hb1.size); (have HP := Lib.hid hP); clear hP) | (go_at_call 64; (refine (first_good t _ _ _ _ (loopL_some HL.out).2).mono ?_); rintro e w2 ⟨rfl, hb2⟩))
  go_ret2
  exact ⟨rfl, Below.trans (Below.trans hb1 (by go_grown)) (hb2.mono (by simp; omega))⟩

set_option maxHeartbeats 400000 in
theorem iFirstLoop_yes (t : ByteArray) (ps : List (Nat × Nat)) (w : World) (ht : t.size ≤ 1048576) (h8 : ps.length ≤ 8) (hl : loopL t.data.toList = some ps) :
    Calls Try.prog 32 #[.string t] w fun e w' => e = .returned (.tuple #[.string (txL (firstL t.data.toList)), .bool true]) ∧ Below w.heap.size w w' := by
  go_enter Try.func32, Try.ntmps32
  go_wp2_with (first | (go_at_call 61; (with_reducible refine (told_first t ps _ ht h8 hl).mono ?_); rintro e w1 ⟨rfl, hb1⟩))
  go_ret2
  exact ⟨rfl, hb1⟩

set_option maxHeartbeats 400000 in
theorem iFirstLoop_no (t : ByteArray) (w : World) (ht : t.size ≤ 1048576) (hl : loopL t.data.toList = none) :
    Calls Try.prog 32 #[.string t] w fun e w' => e = .returned (.tuple #[.string ⟨#[]⟩, .bool false]) ∧ Below w.heap.size w w' := by
  go_enter Try.func32, Try.ntmps32
  go_wp2_with (first | (go_at_call 61; (with_reducible refine (told_no_string t _ _ ht hl).mono ?_); rintro e w1 ⟨rfl, hb1⟩))
  go_ret2
  exact ⟨rfl, hb1⟩

set_option maxHeartbeats 400000 in
theorem sFirstLoop_no (t : ByteArray) (w : World) (ht : t.size ≤ 1048576) (hg : goodL t.data.toList = false) :
    Calls Try.prog 31 #[.string t] w fun e w' => e = .returned (.tuple #[.string ⟨#[]⟩, .bool false]) ∧ Below w.heap.size w w' := by
  have HG := Lib.hid hg
  clear hg
  go_enter Try.func31, Try.ntmps31
  go_wp2_with (first | (go_at_call 39; (with_reducible refine (loGood_any t _ ht).mono ?_); rintro e w1 ⟨rfl, hb1⟩; rw [HG.out]))
  go_ret2
  exact ⟨rfl, hb1⟩

theorem main_FirstLoop (t : ByteArray) (w : World) (ht : t.size ≤ 1048576) : Calls Try.prog 11 #[.string t] w fun e w' => e = .returned (.bool true) ∧ Below w.heap.size w w' := by
  cases hl : loopL t.data.toList with
  | none => exact core_FirstLoop t _ _ w ht (fun W => sFirstLoop_no t W ht (loopL_none hl)) (fun W => iFirstLoop_no t W ht hl)
  | some ps =>
    obtain ⟨h1, h2⟩ := loopL_some hl
    exact core_FirstLoop t _ _ w ht (fun W => sFirstLoop_yes t ps W ht h1 h2) (fun W => iFirstLoop_yes t ps W ht h1.few hl)

theorem walk_FirstLoop (t : ByteArray) (w : World) (wf0 : t.size ≤ maxLen) :
    Calls Try.prog 11 #[.string t] w fun e w' => e = .returned (.bool true) ∧ Below w.heap.size w w' := by
  by_cases h0 : 1048576 < (t.size : Int)
  · exact long0_FirstLoop t w  h0
  exact main_FirstLoop t w (by omega)

set_option maxHeartbeats 1000000 in
theorem core_SameLoops (a : ByteArray) (b : ByteArray) (x : Bool) (y : Bool) (w : World) (ht0 : a.size ≤ 1048576) (ht1 : b.size ≤ 1048576)
    (hs : ∀ W : World, Calls Try.prog 33 #[.string a, .string b] W fun e w' => e = .returned (.tuple #[.bool x, .bool y]) ∧ Below W.heap.size W w')
    (hi : ∀ W : World, Calls Try.prog 34 #[.string a, .string b] W fun e w' => e = .returned (.tuple #[.bool x, .bool y]) ∧ Below W.heap.size W w') :
    Calls Try.prog 12 #[.string a, .string b] w fun e w' => e = .returned (.bool true) ∧ Below w.heap.size w w' := by
  have HS := Lib.hid hs
  have HI := Lib.hid hi
  have h0 : ¬ 1048576 < (a.size : Int) := by omega
  have h1 : ¬ 1048576 < (b.size : Int) := by omega
  clear hs hi ht0 ht1
  go_enter Try.func12, Try.ntmps12
  go_wp2_with (first | (go_at_call 33; (with_reducible refine (HS.out _).mono ?_); rintro e w1 ⟨rfl, hb1⟩) | (go_at_call 34; (with_reducible refine (HI.out _).mono ?_); rintro e w2 ⟨rfl, hb2⟩))
  go_ret
  exact ⟨rfl, hb1.trans (hb2.mono hb1.size)⟩

set_option maxHeartbeats 400000 in
theorem long0_SameLoops (a : ByteArray) (b : ByteArray) (w : World)  (ht : 1048576 < (a.size : Int)) :
    Calls Try.prog 12 #[.string a, .string b] w fun e w' => e = .returned (.bool true) ∧ Below w.heap.size w w' := by
  go_enter Try.func12, Try.ntmps12
  go_wp2
  go_ret
  exact ⟨rfl, Below.refl _ _⟩

set_option maxHeartbeats 400000 in
theorem long1_SameLoops (a : ByteArray) (b : ByteArray) (w : World) (h0 : ¬ 1048576 < (a.size : Int)) (ht : 1048576 < (b.size : Int)) :
    Calls Try.prog 12 #[.string a, .string b] w fun e w' => e = .returned (.bool true) ∧ Below w.heap.size w w' := by
  go_enter Try.func12, Try.ntmps12
  go_wp2
  go_ret
  exact ⟨rfl, Below.refl _ _⟩

set_option maxHeartbeats 1000000 in
theorem iSameLoops_yes (a b : ByteArray) (ps qs : List (Nat × Nat)) (w : World) (ha : a.size ≤ 1048576) (h8a : ps.length ≤ 8) (hla : loopL a.data.toList = some ps) (hb : b.size ≤ 1048576) (h8b : qs.length ≤ 8) (hlb : loopL b.data.toList = some qs) :
    Calls Try.prog 34 #[.string a, .string b] w fun e w' => e = .returned (.tuple #[.bool (decide (firstL a.data.toList = firstL b.data.toList)), .bool true]) ∧ Below w.heap.size w w' := by
  have HLa := Lib.hid hla
  have HLb := Lib.hid hlb
  clear hla hlb
  have HEQ := Lib.hid (str_same (firstL a.data.toList) (firstL b.data.toList)).symm
  obtain ⟨X, hX⟩ : ∃ X, txL (firstL a.data.toList) = X := ⟨_, rfl⟩
  obtain ⟨Y, hY⟩ : ∃ Y, txL (firstL b.data.toList) = Y := ⟨_, rfl⟩
  go_enter Try.func34, Try.ntmps34
  go_wp2_with (first | (go_at_call 32; (with_reducible refine (iFirstLoop_yes a ps _ ha h8a HLa.out).mono ?_); rintro e w1 ⟨rfl, hb1⟩; (have hz1 := hb1.size)) | (go_at_call 32; (with_reducible refine (iFirstLoop_yes b qs _ hb h8b HLb.out).mono ?_); rintro e w2 ⟨rfl, hb2⟩; (have hz2 := hb2.size)))
  go_ret2
  exact ⟨by rw [HEQ.out, hX, hY]; rfl, hb1.trans (hb2.mono hz1)⟩

set_option maxHeartbeats 1000000 in
theorem iSameLoops_no1 (a b : ByteArray) (ps qs : List (Nat × Nat)) (w : World) (ha : a.size ≤ 1048576) (hla : loopL a.data.toList = none) (hb : b.size ≤ 1048576) (h8b : qs.length ≤ 8) (hlb : loopL b.data.toList = some qs) :
    Calls Try.prog 34 #[.string a, .string b] w fun e w' => e = .returned (.tuple #[.bool false, .bool false]) ∧ Below w.heap.size w w' := by
  have HLa := Lib.hid hla
  have HLb := Lib.hid hlb
  clear hla hlb
  go_enter Try.func34, Try.ntmps34
  go_wp2_with (first | (go_at_call 32; (with_reducible refine (iFirstLoop_no a _ ha HLa.out).mono ?_); rintro e w1 ⟨rfl, hb1⟩; (have hz1 := hb1.size)) | (go_at_call 32; (with_reducible refine (iFirstLoop_yes b qs _ hb h8b HLb.out).mono ?_); rintro e w2 ⟨rfl, hb2⟩; (have hz2 := hb2.size)))
  go_ret2
  exact ⟨by first | rfl | simp, hb1.trans (hb2.mono hz1)⟩

set_option maxHeartbeats 1000000 in
theorem iSameLoops_no2 (a b : ByteArray) (ps qs : List (Nat × Nat)) (w : World) (ha : a.size ≤ 1048576) (h8a : ps.length ≤ 8) (hla : loopL a.data.toList = some ps) (hb : b.size ≤ 1048576) (hlb : loopL b.data.toList = none) :
    Calls Try.prog 34 #[.string a, .string b] w fun e w' => e = .returned (.tuple #[.bool false, .bool false]) ∧ Below w.heap.size w w' := by
  have HLa := Lib.hid hla
  have HLb := Lib.hid hlb
  clear hla hlb
  go_enter Try.func34, Try.ntmps34
  go_wp2_with (first | (go_at_call 32; (with_reducible refine (iFirstLoop_yes a ps _ ha h8a HLa.out).mono ?_); rintro e w1 ⟨rfl, hb1⟩; (have hz1 := hb1.size)) | (go_at_call 32; (with_reducible refine (iFirstLoop_no b _ hb HLb.out).mono ?_); rintro e w2 ⟨rfl, hb2⟩; (have hz2 := hb2.size)))
  go_ret2
  exact ⟨by first | rfl | simp, hb1.trans (hb2.mono hz1)⟩

set_option maxHeartbeats 1000000 in
theorem iSameLoops_no3 (a b : ByteArray) (ps qs : List (Nat × Nat)) (w : World) (ha : a.size ≤ 1048576) (hla : loopL a.data.toList = none) (hb : b.size ≤ 1048576) (hlb : loopL b.data.toList = none) :
    Calls Try.prog 34 #[.string a, .string b] w fun e w' => e = .returned (.tuple #[.bool false, .bool false]) ∧ Below w.heap.size w w' := by
  have HLa := Lib.hid hla
  have HLb := Lib.hid hlb
  clear hla hlb
  go_enter Try.func34, Try.ntmps34
  go_wp2_with (first | (go_at_call 32; (with_reducible refine (iFirstLoop_no a _ ha HLa.out).mono ?_); rintro e w1 ⟨rfl, hb1⟩; (have hz1 := hb1.size)) | (go_at_call 32; (with_reducible refine (iFirstLoop_no b _ hb HLb.out).mono ?_); rintro e w2 ⟨rfl, hb2⟩; (have hz2 := hb2.size)))
  go_ret2
  exact ⟨by first | rfl | simp, hb1.trans (hb2.mono hz1)⟩

set_option maxHeartbeats 400000 in
theorem sSameLoops_no1 (a b : ByteArray) (w : World) (ha : a.size ≤ 1048576) (hb : b.size ≤ 1048576) (hga : goodL a.data.toList = false) :
    Calls Try.prog 33 #[.string a, .string b] w fun e w' => e = .returned (.tuple #[.bool false, .bool false]) ∧ Below w.heap.size w w' := by
  have HGa := Lib.hid hga
  clear hga
  go_enter Try.func33, Try.ntmps33
  go_wp2_with (first | (go_at_call 39; with_reducible refine (loGood_any a _ ha).mono ?_; rintro e w1 ⟨rfl, hb1⟩; (have hz1 := hb1.size); rw [HGa.out]))
  go_ret2
  exact ⟨rfl, hb1⟩

set_option maxHeartbeats 400000 in
theorem sSameLoops_no2 (a b : ByteArray) (w : World) (ha : a.size ≤ 1048576) (hb : b.size ≤ 1048576) (hga : goodL a.data.toList = true) (hgb : goodL b.data.toList = false) :
    Calls Try.prog 33 #[.string a, .string b] w fun e w' => e = .returned (.tuple #[.bool false, .bool false]) ∧ Below w.heap.size w w' := by
  have HGa := Lib.hid hga
  clear hga
  have HGb := Lib.hid hgb
  clear hgb
  go_enter Try.func33, Try.ntmps33
  go_wp2_with (first | (go_at_call 39; with_reducible refine (loGood_any a _ ha).mono ?_; rintro e w1 ⟨rfl, hb1⟩; (have hz1 := hb1.size); rw [HGa.out]) | (go_at_call 39; with_reducible refine (loGood_any b _ hb).mono ?_; rintro e w2 ⟨rfl, hb2⟩; (have hz2 := hb2.size); rw [HGb.out]))
  go_ret2
  exact ⟨rfl, hb1.trans (hb2.mono hz1)⟩

set_option maxHeartbeats 1000000 in
theorem sSameLoops_yes (a b : ByteArray) (w : World) (ha : a.size ≤ 1048576) (hb : b.size ≤ 1048576) (hga : goodL a.data.toList = true) (hgb : goodL b.data.toList = true) :
    Calls Try.prog 33 #[.string a, .string b] w fun e w' => e = .returned (.tuple #[.bool (decide (firstL a.data.toList = firstL b.data.toList)), .bool true]) ∧ Below w.heap.size w w' := by
  have HGa := Lib.hid hga
  have HGb := Lib.hid hgb
  have a16 : a.size ≤ 16 := by rw [← tx_len]; exact ((goodL_iff _).1 hga).1
  have b16 : b.size ≤ 16 := by rw [← tx_len]; exact ((goodL_iff _).1 hgb).1
  have HFa := Lib.hid (fun W => loFirst_any a W a16 ((goodL_iff _).1 hga).2.2.2)
  have HFb := Lib.hid (fun W => loFirst_any b W b16 ((goodL_iff _).1 hgb).2.2.2)
  have HEQ := Lib.hid (str_same (firstL a.data.toList) (firstL b.data.toList)).symm
  obtain ⟨X, hX⟩ : ∃ X, txL (firstL a.data.toList) = X := ⟨_, rfl⟩
  obtain ⟨Y, hY⟩ : ∃ Y, txL (firstL b.data.toList) = Y := ⟨_, rfl⟩
  rw [hX] at HFa HEQ
  rw [hY] at HFb HEQ
  clear hga hgb hX hY
  go_enter Try.func33, Try.ntmps33
  go_wp2_with (first | (go_at_call 39; with_reducible refine (loGood_any a _ ha).mono ?_; rintro e w1 ⟨rfl, hb1⟩; (have hz1 := hb1.size); rw [HGa.out]) | (go_at_call 39; with_reducible refine (loGood_any b _ hb).mono ?_; rintro e w2 ⟨rfl, hb2⟩; (have hz2 := hb2.size); rw [HGb.out]) | (go_at_call 63; with_reducible refine (HFa.out _).mono ?_; rintro e w3 ⟨rfl, hb3⟩; (have hz3 := hb3.size); clear HFa) | (go_at_call 63; with_reducible refine (HFb.out _).mono ?_; rintro e w4 ⟨rfl, hb4⟩))
  go_ret2
  exact ⟨by rw [HEQ.out]; rfl, ((hb1.trans (hb2.mono hz1)).trans (hb3.mono (by omega))).trans (hb4.mono (by omega))⟩

theorem main_SameLoops (a b : ByteArray) (w : World) (ha : a.size ≤ 1048576) (hb : b.size ≤ 1048576) : Calls Try.prog 12 #[.string a, .string b] w fun e w' => e = .returned (.bool true) ∧ Below w.heap.size w w' := by
  cases hla : loopL a.data.toList with
  | none =>
    cases hlb : loopL b.data.toList with
    | none => exact core_SameLoops a b _ _ w ha hb (fun W => sSameLoops_no1 a b W ha hb (loopL_none hla)) (fun W => iSameLoops_no3 a b [] [] W ha hla hb hlb)
    | some qs => exact core_SameLoops a b _ _ w ha hb (fun W => sSameLoops_no1 a b W ha hb (loopL_none hla)) (fun W => iSameLoops_no1 a b [] qs W ha hla hb (loopL_some hlb).1.few hlb)
  | some ps =>
    cases hlb : loopL b.data.toList with
    | none => exact core_SameLoops a b _ _ w ha hb (fun W => sSameLoops_no2 a b W ha hb (loopL_some hla).2 (loopL_none hlb)) (fun W => iSameLoops_no2 a b ps [] W ha (loopL_some hla).1.few hla hb hlb)
    | some qs => exact core_SameLoops a b _ _ w ha hb (fun W => sSameLoops_yes a b W ha hb (loopL_some hla).2 (loopL_some hlb).2) (fun W => iSameLoops_yes a b ps qs W ha (loopL_some hla).1.few hla hb (loopL_some hlb).1.few hlb)

theorem walk_SameLoops (a : ByteArray) (b : ByteArray) (w : World) (wf0 : a.size ≤ maxLen) (wf1 : b.size ≤ maxLen) :
    Calls Try.prog 12 #[.string a, .string b] w fun e w' => e = .returned (.bool true) ∧ Below w.heap.size w w' := by
  by_cases h0 : 1048576 < (a.size : Int)
  · exact long0_SameLoops a b w  h0
  by_cases h1 : 1048576 < (b.size : Int)
  · exact long1_SameLoops a b w h0 h1
  exact main_SameLoops a b w (by omega) (by omega)

end Go.Proofs.Ytpcebcgmbngabaa
