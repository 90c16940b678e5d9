/- Texts of puzzles: the program's, the law. -/
import Derived.Test.YtbgcbokddldmkaaDoorPz2
import Derived.Test.YtbgcbokddldmkaaDoorSj
import Derived.Test.YtbgcbokddldmkaaDoorX7
namespace Go.Proofs.YtbgcbokddldmkaaDoor
open Go.RowKit
set_option linter.unusedVariables false

theorem Tryd.joinExtra : Go.Proofs.Builder.Extra Tryd.prog Tryd.joinL_ren where
  sizeBuilder := by kernel_rfl
  liesBuilder := by kernel_rfl
  t5 := Tryd.underlying5
  a5 := Tryd.isAgg5
  z5 := Tryd.sizeOf5
  v5 := Tryd.zeroValue5
  infoByte := by kernel_rfl
  cellsByte := by kernel_rfl
  sizeByte := by kernel_rfl
  neB5 := by decide

theorem pjoin_any (xs : List Tri) (hs : SmallT xs) (g : Nat) (w : World) (hn : xs.length ≤ 30) (h : ValAt 9 w g ((ptextsB xs xs.length).map Value.string)) :
    Calls Tryd.prog 108 #[.slice (some ⟨g, 0, none⟩) xs.length xs.length, .string ⟨#[44]⟩] w fun e w' => e = .returned (.string (ptextB xs xs.length)) ∧ Below w.heap.size w w' := by
  have hl := ptextsB_length xs xs.length
  have hjs := pjoin_size xs hs xs.length
  have hc := Any.strings_Join Tryd.joinL Tryd.joinExtra g 0 xs.length (ptextsB xs xs.length) ⟨#[44]⟩ w (fun j x hx => by
    rw [Nat.zero_add]
    exact h.cell j _ (by rw [List.getElem?_map, hx]; rfl)) h.lt (by omega) (by omega) (by show (Lib.join _ [44]).length ≤ _; omega)
  rw [hl] at hc
  refine hc.mono ?_
  rintro e w' ⟨rfl, hb⟩
  exact ⟨by rw [ptextB_join xs xs.length], hb⟩

theorem info_strS : (Tryd.prog.info? 9).map (fun i => (i.zero, i.size, i.bytes)) = some (some (.string ⟨#[]⟩), 1, 16) := by kernel_rfl

set_option maxHeartbeats 4000000 in
set_option maxRecDepth 100000 in
theorem textOfClues_any (u : Value) (xs : List Tri) (w : World) (hx : SrcT w u xs) (hn : TabW w) (hl : xs.length ≤ 30) (hg : ∀ k, k < xs.length → (0 ≤ (xs.getD k noT).1 ∧ (xs.getD k noT).1 < 1000) ∧ (0 ≤ (xs.getD k noT).2.1 ∧ (xs.getD k noT).2.1 < 1000) ∧ (0 ≤ (xs.getD k noT).2.2 ∧ (xs.getD k noT).2.2 < 1000)) :
    Calls Tryd.prog 74 #[u] w fun e w' => e = .returned (.string (ptextB xs xs.length)) ∧ Below w.heap.size w w' := by
  obtain ⟨a0, cap, g, off, rfl, ha, _, _, hcs⟩ := hx.form
  have X := Lib.hid hcs
  have HA := Lib.hid ha
  have HG := Lib.hid hg
  have HSM := Lib.hid (small_of hg)
  have HN := Lib.hid hn
  have hmk := make_strs (P := Tryd.prog) Tryd.underlying91 info_strS xs.length (by omega)
  clear hx ha hcs hg hn
  go_enter Tryd.func74, Tryd.ntmps74
  go_wp2
  clear hmk
  go_loopw [11] (fun i wr => ∃ k : Nat, k ≤ xs.length ∧ i = .int .i64 k ∧ ValAt 9 wr w.heap.size (ppartB xs xs.length k) ∧ Below w.heap.size w wr) (fun i _ => xs.length - (intOf i).toNat)
  case atStart => exact ⟨0, by omega, rfl, by rw [ppartB_zero]; exact heap_alloc_new w _, by go_grown⟩
  case round =>
    obtain ⟨k, hk, rfl, hV, hB⟩ := hrel
    have hz := hB.size
    have hgz := hV.lt
    by_cases hlt : k < xs.length
    · obtain rfl := HA.out (by omega)
      have cx := cellB hB (X.out k hlt).1
      have cy := cellB hB (X.out k hlt).2.1
      have cz := cellB hB (X.out k hlt).2.2
      obtain ⟨b1, b2, b3⟩ := HG.out k hlt
      have hcv := hV.cell k _ (ppartB_get xs xs.length k hlt)
      have hfv := hV.frozen k
      have hpb : clueB (xs.getD k noT) = dB (xs.getD k noT).1.toNat ++ ⟨#[46]⟩ ++ dB (xs.getD k noT).2.1.toNat ++ ⟨#[46]⟩ ++ dB (xs.getD k noT).2.2.toNat := rfl
      obtain ⟨x, hX⟩ : ∃ x, x = (xs.getD k noT).1 := ⟨_, rfl⟩
      obtain ⟨y, hY⟩ : ∃ y, y = (xs.getD k noT).2.1 := ⟨_, rfl⟩
      obtain ⟨z, hZ⟩ : ∃ z, z = (xs.getD k noT).2.2 := ⟨_, rfl⟩
      rw [← hX] at cx b1 hpb
      rw [← hY] at cy b2 hpb
      rw [← hZ] at cz b3 hpb
      have HPB := Lib.hid hpb
      have hk1 : 0 ≤ (k : Int) := by omega
      have hk2 : (k : Int) < (xs.length : Int) := by omega
      have hw1 : IntKind.i64.wrap ((k : Int) + 1) = ((k + 1 : Nat) : Int) := by rw [IntKind.wrap_i64]; omega
      have s1 := dB_size3 x.toNat (by omega)
      have s2 := dB_size3 y.toNat (by omega)
      have s3 := dB_size3 z.toNat (by omega)
      obtain ⟨q1, q2, q3, q4, _⟩ := strAdd5 ⟨#[]⟩ (dB x.toNat) (dB y.toNat) (dB z.toNat) (by simp [ByteArray.size]) s1 s2 s3
      have HV := Lib.hid hV
      have HB := Lib.hid hB
      clear hX hY hZ hV hB hpb s1 s2 s3
      have hbw : Below wr.heap.size wr (wr.alloc (.cells #[.int .i64 x, .int .i64 y, .int .i64 z] 44)) := (Below.refl _ _).alloc (Nat.le_refl _) _
      go_wp2
      obtain ⟨wb, hwb⟩ : ∃ q : World, q = wr.alloc (.cells #[.int .i64 x, .int .i64 y, .int .i64 z] 44) := ⟨_, rfl⟩
      have d0 : wb.cell? ⟨wr.heap.size, 0, none⟩ = some (.int .i64 x) := by rw [hwb]; go_simp
      have d1 : wb.cell? ⟨wr.heap.size, 1, none⟩ = some (.int .i64 y) := by rw [hwb]; go_simp
      have d2 : wb.cell? ⟨wr.heap.size, 2, none⟩ = some (.int .i64 z) := by rw [hwb]; go_simp
      rw [← hwb] at hbw ⊢
      have HVb := Lib.hid (HV.out.keep hbw)
      have dk := HVb.out.cell k _ (ppartB_get xs xs.length k hlt)
      have df := HVb.out.frozen k
      have ne1 : ¬ wr.heap.size = w.heap.size := by omega
      have ne2 : ¬ w.heap.size = wr.heap.size := by omega
      have HBb := Lib.hid hbw
      clear hwb hbw cx cy cz hcv hfv HV
      have hBW : Below w.heap.size w wb := HB.out.trans (HBb.out.mono hz)
      have hzb := HBb.out.size
      go_region_held3 (fun w' => w'.cell? ⟨wr.heap.size, 0, none⟩ = some (.int .i64 x) ∧ w'.cell? ⟨wr.heap.size, 1, none⟩ = some (.int .i64 y) ∧ w'.cell? ⟨wr.heap.size, 2, none⟩ = some (.int .i64 z)) (go_keep)
        (first | (go_at_call 107; (refine (itoa_dB _ _ (by omega) (by omega) (HN.out.later (by go_grown))).mono ?_); rintro e w2 ⟨rfl, hb2⟩; (have hbw : Below wb.heap.size wb w2 := by (refine Below.trans ?_ (hb2.mono (by first | (simp; done) | omega | (simp; omega))); go_grown)); (have hzw := hbw.size); (have e0 : w2.cell? ⟨wr.heap.size, 0, none⟩ = some (.int .i64 x) := cellB hbw d0); (have e1 : w2.cell? ⟨wr.heap.size, 1, none⟩ = some (.int .i64 y) := cellB hbw d1); (have e2 : w2.cell? ⟨wr.heap.size, 2, none⟩ = some (.int .i64 z) := cellB hbw d2); (have ek := (HVb.out.keep hbw).cell k _ (ppartB_get xs xs.length k hlt)); (have ef := (HVb.out.keep hbw).frozen k); (have hBW2 : Below w.heap.size w w2 := hBW.trans (hbw.mono (by omega))); (have HV2 := Lib.hid (HVb.out.keep hbw)); clear hb2))
      all_goals
        have hset := Lib.hid (show ValAt 9 (w2.setCell ⟨w.heap.size, k, none⟩ (.string (dB x.toNat ++ ⟨#[46]⟩ ++ dB y.toNat ++ ⟨#[46]⟩ ++ dB z.toNat))) w.heap.size (ppartB xs xs.length (k + 1)) by
          rw [← ppartB_set xs xs.length k hlt, HPB.out]
          exact HV2.out.stored k _)
        go_wp2
        go_roundw
        case rel => exact ⟨k + 1, by omega, by go_num, hset.out, by first | exact hBW2.setCell (p := ⟨w.heap.size, k, none⟩) (Nat.le_refl _) _ | exact bdn (hBW2.setCell (p := ⟨w.heap.size, k, none⟩) (Nat.le_refl _) _) 1⟩
        case measure => simp [intOf]; omega
    · obtain rfl : k = xs.length := by omega
      rw [ppartB_all] at hV
      have HV := Lib.hid hV
      have HB := Lib.hid hB
      clear hV hB
      go_wp2_with (first | (go_at_call 108; (with_reducible refine (pjoin_any xs HSM.out w.heap.size _ hl HV.out).mono ?_); rintro e w2 ⟨rfl, hb2⟩))
      go_ret
      exact ⟨rfl, HB.out.trans (hb2.mono hz)⟩

/-- What PuzzleText asks of the world. -/
structure ClueTab (w : World) : Prop where
  clue : ClueW w
  tab : TabW w
theorem ClueTab.later {w w' : World} (h : ClueTab w) (hb : Below w.heap.size w w') : ClueTab w' := ⟨h.clue.later hb, h.tab.later hb⟩

set_option maxHeartbeats 400000 in
theorem told_text_yes (u : Value) (xs : List Tri) (w : World) (hx : SrcT w u xs) (hP : puzzleP xs) (hW : ClueW w) (hT : TabW w) : Calls Tryd.prog 73 #[.agg #[u], .func (.func 74) #[] #[]] w (fun e w' => e = .returned (.tuple #[.string (ptextB xs xs.length), .bool true]) ∧ Below w.heap.size w w') := by
  have HT := Lib.hid hT
  have HSM := Lib.hid (puzzle_small hP)
  have hl6 := hP.1
  clear hT
  have HX := Lib.hid hx
  have HW := Lib.hid hW
  have HP := Lib.hid (show decide (puzzleP xs) = true from decide_eq_true hP)
  obtain ⟨a0, cap, g, off, rfl, _⟩ := hx.form
  clear hx hW
  go_enter Tryd.func73, Tryd.ntmps73
  go_wp2_with (first | (go_at_call 62; (refine (iIsPuzzle_any _ xs true _ (HX.out.later (by go_grown)) HP.out (HW.out.later (by go_grown))).mono ?_); rintro e w1 ⟨rfl, hb1⟩; (have c0 : w1.cell? ⟨w.heap.size, 0, none⟩ = some (.slice a0 xs.length cap) := cellB hb1 (by go_simp)); (have hB1 : Below w.heap.size w w1 := Below.trans (by go_grown) (hb1.mono (by first | omega | (simp; done) | (simp; omega)))); have hz1 := hB1.size) | (go_at_call 74; (refine (textOfClues_any _ xs _ (HX.out.later (by go_grown)) (HT.out.later (by go_grown)) (by omega) HSM.out).mono ?_); rintro e w2 ⟨rfl, hb2⟩))
  go_ret2
  exact ⟨rfl, hB1.trans (hb2.mono hz1)⟩

set_option maxHeartbeats 400000 in
theorem told_text_no (u : Value) (xs : List Tri) (w : World) (hx : SrcT w u xs) (f : Value) (hP : ¬ puzzleP xs) (hW : ClueW w) : Calls Tryd.prog 73 #[.agg #[u], f] w (fun e w' => e = .returned (.tuple #[.string ⟨#[]⟩, .bool false]) ∧ Below w.heap.size w w') := by
  have HX := Lib.hid hx
  have HW := Lib.hid hW
  have HP := Lib.hid (show decide (puzzleP xs) = false from decide_eq_false hP)
  obtain ⟨a0, cap, g, off, rfl, _⟩ := hx.form
  clear hx hW
  go_enter Tryd.func73, Tryd.ntmps73
  go_wp2_with (first | (go_at_call 62; (refine (iIsPuzzle_any _ xs false _ (HX.out.later (by go_grown)) HP.out (HW.out.later (by go_grown))).mono ?_); rintro e w1 ⟨rfl, hb1⟩; (have c0 : w1.cell? ⟨w.heap.size, 0, none⟩ = some (.slice a0 xs.length cap) := cellB hb1 (by go_simp)); (have hB1 : Below w.heap.size w w1 := Below.trans (by go_grown) (hb1.mono (by first | omega | (simp; done) | (simp; omega)))); have hz1 := hB1.size))
  go_ret2
  exact ⟨rfl, hB1⟩

set_option maxHeartbeats 400000 in
theorem iPuzzleText_yes (u : Value) (xs : List Tri) (w : World) (hx : SrcT w u xs) (hP : puzzleP xs) (hW : ClueW w) (hT : TabW w) : Calls Tryd.prog 34 #[.agg #[u]] w (fun e w' => e = .returned (.tuple #[.string (ptextB xs xs.length), .bool true]) ∧ Below w.heap.size w w') := by
  have HT := Lib.hid hT
  clear hT
  have HX := Lib.hid hx
  have HW := Lib.hid hW
  have HP := Lib.hid (show decide (puzzleP xs) = true from decide_eq_true hP)
  obtain ⟨a0, cap, g, off, rfl, _⟩ := hx.form
  clear hx hW
  go_enter Tryd.func34, Tryd.ntmps34
  go_wp2_with (first | (go_at_call 73; (refine (told_text_yes _ xs _ (HX.out.later (by go_grown)) hP (HW.out.later (by go_grown)) (HT.out.later (by go_grown))).mono ?_); rintro e w1 ⟨rfl, hb1⟩))
  go_ret2
  exact ⟨rfl, Below.trans (by go_grown) (hb1.mono (by first | omega | (simp; done) | (simp; omega)))⟩

set_option maxHeartbeats 400000 in
theorem iPuzzleText_no (u : Value) (xs : List Tri) (w : World) (hx : SrcT w u xs) (hP : ¬ puzzleP xs) (hW : ClueW w) (hT : TabW w) : Calls Tryd.prog 34 #[.agg #[u]] w (fun e w' => e = .returned (.tuple #[.string ⟨#[]⟩, .bool false]) ∧ Below w.heap.size w w') := by
  have HT := Lib.hid hT
  clear hT
  have HX := Lib.hid hx
  have HW := Lib.hid hW
  have HP := Lib.hid (show decide (puzzleP xs) = false from decide_eq_false hP)
  obtain ⟨a0, cap, g, off, rfl, _⟩ := hx.form
  clear hx hW
  go_enter Tryd.func34, Tryd.ntmps34
  go_wp2_with (first | (go_at_call 73; (refine (told_text_no _ xs _ (HX.out.later (by go_grown)) _ hP (HW.out.later (by go_grown))).mono ?_); rintro e w1 ⟨rfl, hb1⟩))
  go_ret2
  exact ⟨rfl, Below.trans (by go_grown) (hb1.mono (by first | omega | (simp; done) | (simp; omega)))⟩

set_option maxHeartbeats 400000 in
theorem sPuzzleText_yes (u : Value) (xs : List Tri) (w : World) (hx : SrcT w u xs) (hP : puzzleP xs) (hW : ClueW w) : Calls Tryd.prog 33 #[.agg #[u]] w (fun e w' => e = .returned (.tuple #[.string (ptextB xs xs.length), .bool true]) ∧ Below w.heap.size w w') := by
  have HSM := Lib.hid (puzzle_small hP)
  have hl6 := hP.1
  have HX := Lib.hid hx
  have HW := Lib.hid hW
  have HP := Lib.hid (show decide (puzzleP xs) = true from decide_eq_true hP)
  obtain ⟨a0, cap, g, off, rfl, _⟩ := hx.form
  clear hx hW
  go_enter Tryd.func33, Tryd.ntmps33
  go_wp2_with (first | (go_at_call 53; (refine (pzGood_any _ xs true _ (HX.out.later (by go_grown)) HP.out).mono ?_); rintro e w1 ⟨rfl, hb1⟩; (have c0 : w1.cell? ⟨w.heap.size, 0, none⟩ = some (.slice a0 xs.length cap) := cellB hb1 (by go_simp)); (have hB1 : Below w.heap.size w w1 := Below.trans (by go_grown) (hb1.mono (by first | omega | (simp; done) | (simp; omega)))); have hz1 := hB1.size) | (go_at_call 72; (refine (pzText_any _ xs _ (HX.out.later (by go_grown)) (by omega) HSM.out).mono ?_); rintro e w2 ⟨rfl, hb2⟩))
  go_ret2
  exact ⟨rfl, hB1.trans (hb2.mono hB1.size)⟩

set_option maxHeartbeats 400000 in
theorem sPuzzleText_no (u : Value) (xs : List Tri) (w : World) (hx : SrcT w u xs) (hP : ¬ puzzleP xs) (hW : ClueW w) : Calls Tryd.prog 33 #[.agg #[u]] w (fun e w' => e = .returned (.tuple #[.string ⟨#[]⟩, .bool false]) ∧ Below w.heap.size w w') := by
  have HX := Lib.hid hx
  have HW := Lib.hid hW
  have HP := Lib.hid (show decide (puzzleP xs) = false from decide_eq_false hP)
  obtain ⟨a0, cap, g, off, rfl, _⟩ := hx.form
  clear hx hW
  go_enter Tryd.func33, Tryd.ntmps33
  go_wp2_with (first | (go_at_call 53; (refine (pzGood_any _ xs false _ (HX.out.later (by go_grown)) HP.out).mono ?_); rintro e w1 ⟨rfl, hb1⟩; (have c0 : w1.cell? ⟨w.heap.size, 0, none⟩ = some (.slice a0 xs.length cap) := cellB hb1 (by go_simp)); (have hB1 : Below w.heap.size w w1 := Below.trans (by go_grown) (hb1.mono (by first | omega | (simp; done) | (simp; omega)))); have hz1 := hB1.size))
  go_ret2
  exact ⟨rfl, hB1⟩

set_option maxHeartbeats 2000000 in
theorem core_PuzzleText (v : Value) (xs : List Tri) (x : ByteArray) (b : Bool) (w : World) (hA : ArgT w v xs) (hW : ClueTab w) (hn : xs.length ≤ 1048576)
    (hs : ∀ (W : World) (u : Value) (B T : Nat), ClueTab W → TripsIn 44 W B T u xs → T ≤ W.heap.size → Calls Tryd.prog 33 #[.agg #[u]] W (fun e w' => e = .returned (.tuple #[.string x, .bool b]) ∧ Below W.heap.size W w'))
    (hi : ∀ (W : World) (u : Value) (B T : Nat), ClueTab W → TripsIn 44 W B T u xs → T ≤ W.heap.size → Calls Tryd.prog 34 #[.agg #[u]] W (fun e w' => e = .returned (.tuple #[.string x, .bool b]) ∧ Below W.heap.size W w')) :
    Calls Tryd.prog 8 #[.agg #[v]] w fun e w' => e = .returned (.bool true) ∧ Below w.heap.size w w' := by
  have hA1 := hA
  obtain ⟨a0, cap, a, rfl, _⟩ := hA1
  have HS := Lib.hid hs
  have HI := Lib.hid hi
  have HA := Lib.hid hA
  have HW := Lib.hid hW
  clear hs hi hA hW
  go_enter Tryd.func8, Tryd.ntmps8
  go_wp2_with fail
  refine (szPuzzle_yes _ _ _ _ hn).mono ?_
  rintro e w1 ⟨rfl, hx1⟩
  have hb1 : Below w.heap.size w w1 := Below.trans (by go_grown) (hx1.mono (by first | omega | (simp; done) | (simp; omega)))
  have n1 : w.heap.size + 1 ≤ w1.heap.size := by have := hx1.size; (try simp at this); omega
  have B1 : Below w.heap.size w w1 := hb1
  have zp1 : w1.cell? ⟨w.heap.size, 0, none⟩ = some (.slice a0 xs.length cap) := cellB hx1 (by go_simp)
  go_wp2_with fail
  refine (toPuzzle_any _ _ _ (HA.out.later B1) hn).mono ?_
  rintro e w2 ⟨va, rfl, ka_2, hx2⟩
  have hb2 : Below w1.heap.size w1 w2 := Below.trans (by go_grown) (hx2.mono (by first | omega | (simp; done) | (simp; omega)))
  have n2 : w1.heap.size + 0 ≤ w2.heap.size := by have := hx2.size; (try simp at this); omega
  have B2 : Below w.heap.size w w2 := B1.trans (hb2.mono (by omega))
  have zp2 := cellB hb2 zp1
  clear zp1
  obtain ⟨aa, ma, ca, hva⟩ := own_formT ka_2.1
  subst hva
  go_wp2_with fail
  refine (HS.out _ _ _ _ (HW.out.later B2) ka_2 (by first | omega | (simp; done) | (simp; omega))).mono ?_
  rintro e w3 ⟨rfl, hx3⟩
  have hb3 : Below w2.heap.size w2 w3 := Below.trans (by go_grown) (hx3.mono (by first | omega | (simp; done) | (simp; omega)))
  have n3 : w2.heap.size + 0 ≤ w3.heap.size := by have := hx3.size; (try simp at this); omega
  have B3 : Below w.heap.size w w3 := B2.trans (hb3.mono (by omega))
  have zp3 := cellB hb3 zp2
  clear zp2
  have ka_3 := ka_2.keep (belowSame hb3 (by omega))
  go_wp2_with fail
  refine (toPuzzle_any _ _ _ (HA.out.later B3) hn).mono ?_
  rintro e w4 ⟨vc, rfl, kc_4, hx4⟩
  have hb4 : Below w3.heap.size w3 w4 := Below.trans (by go_grown) (hx4.mono (by first | omega | (simp; done) | (simp; omega)))
  have n4 : w3.heap.size + 0 ≤ w4.heap.size := by have := hx4.size; (try simp at this); omega
  have B4 : Below w.heap.size w w4 := B3.trans (hb4.mono (by omega))
  have zp4 := cellB hb4 zp3
  clear zp3
  have ka_4 := ka_3.keep (belowSame hb4 (by omega))
  obtain ⟨ac, mc, cc, hvc⟩ := own_formT kc_4.1
  subst hvc
  go_wp2_with fail
  refine (HI.out _ _ _ _ (HW.out.later (Below.trans B4 (by go_grown))) (kc_4.keep (belowSame (by go_grown) (by first | omega | (simp; done) | (simp; omega)))) (by first | omega | (simp; done) | (simp; omega))).mono ?_
  rintro e w5 ⟨rfl, hx5⟩
  have hb5 : Below w4.heap.size w4 w5 := Below.trans (by go_grown) (hx5.mono (by first | omega | (simp; done) | (simp; omega)))
  have n5 : w4.heap.size + 1 ≤ w5.heap.size := by have := hx5.size; (try simp at this); omega
  have B5 : Below w.heap.size w w5 := B4.trans (hb5.mono (by omega))
  have zp5 := cellB hb5 zp4
  clear zp4
  have zc5 : w5.cell? ⟨w4.heap.size, 0, none⟩ = some (.slice ac mc cc) := cellB hx5 (by go_simp)
  have ka_5 := ka_4.keep (belowSame hb5 (by omega))
  have kc_5 := kc_4.keep (belowSame hb5 (by omega))
  go_wp2
  go_region_held3 (fun w' => w'.cell? ⟨w.heap.size, 0, none⟩ = some (.slice a0 xs.length cap) ∧ w'.cell? ⟨w4.heap.size, 0, none⟩ = some (.slice ac mc cc)) (go_keep)
    (first | (go_at_call 16; refine (toPuzzle_any _ _ _ (HA.out.later (Below.trans B5 (by go_grown))) hn).mono ?_; rintro e w6 ⟨vd, rfl, kd_6, hx6⟩; (have kd_6 := kd_6.wider (B' := w5.heap.size + 0) (by first | exact Nat.le_refl _ | (simp; done) | (simp; omega)) (Nat.le_refl _)); (have hb6 : Below w5.heap.size w5 w6 := Below.trans (by go_grown) (hx6.mono (by first | omega | (simp; done) | (simp; omega)))); (have n6 : w5.heap.size + 0 ≤ w6.heap.size := by have := hx6.size; (try simp at this); omega); (have B6 : Below w.heap.size w w6 := B5.trans (hb6.mono (by omega))); (have zp6 := cellB hb6 zp5); (have zc6 := cellB hb6 zc5); (have ka_6 := ka_5.keep (belowSame hb6 (by omega))); (have kc_6 := kc_5.keep (belowSame hb6 (by omega))); (obtain ⟨ad, md, cd, hvd⟩ := own_formT kd_6.1); subst hvd) | (go_at_call 19; refine (eqPuzzle_in _ _ _ _ _ _ _ _ _ (kc_6.keep (belowSame (by go_grown) (by first | omega | (simp; done) | (simp; omega)))) (kd_6.keep (belowSame (by go_grown) (by first | omega | (simp; done) | (simp; omega)))) (by first | omega | (simp; done) | (simp; omega)) (by first | omega | (simp; done) | (simp; omega))).mono ?_; rintro e w7 ⟨rfl, hx7⟩; (have hb7 : Below w6.heap.size w6 w7 := Below.trans (by go_grown) (hx7.mono (by first | omega | (simp; done) | (simp; omega)))); (have n7 : w6.heap.size + 0 ≤ w7.heap.size := by have := hx7.size; (try simp at this); omega); (have B7 : Below w.heap.size w w7 := B6.trans (hb7.mono (by omega))); (have zp7 := cellB hb7 zp6); (have zc7 := cellB hb7 zc6); (have ka_7 := ka_6.keep (belowSame hb7 (by omega))); (have kc_7 := kc_6.keep (belowSame hb7 (by omega))); (have kd_7 := kd_6.keep (belowSame hb7 (by omega)))))
  go_wp2_with fail
  go_ret
  exact ⟨rfl, B7⟩

set_option maxHeartbeats 400000 in
theorem long_PuzzleText (v : Value) (xs : List Tri) (w : World) (hA : ArgT w v xs) (hn : ¬ xs.length ≤ 1048576) :
    Calls Tryd.prog 8 #[.agg #[v]] w fun e w' => e = .returned (.bool true) ∧ Below w.heap.size w w' := by
  obtain ⟨a0, cap, a, rfl, _, hm, _⟩ := hA
  go_enter Tryd.func8, Tryd.ntmps8
  go_wp2_with fail
  refine (szPuzzle_no _ _ _ _ (by omega) hm).mono ?_
  rintro e w0 ⟨rfl, hb0⟩
  go_wp2_with fail
  go_ret
  exact ⟨rfl, Below.trans (by go_grown) (hb0.mono (by first | omega | (simp; done) | (simp; omega)))⟩

theorem walk_PuzzleText (v : Value) (xs : List Tri) (w : World) (hA : ArgT w v xs) (hW : ClueTab w) :
    Calls Tryd.prog 8 #[.agg #[v]] w fun e w' => e = .returned (.bool true) ∧ Below w.heap.size w w' := by
  by_cases hn : xs.length ≤ 1048576
  · by_cases hP : puzzleP xs
    · exact core_PuzzleText v xs _ _ w hA hW hn (fun W u B T hw h _ => sPuzzleText_yes u xs W h.1.src hP hw.clue) (fun W u B T hw h _ => iPuzzleText_yes u xs W h.1.src hP hw.clue hw.tab)
    · exact core_PuzzleText v xs _ _ w hA hW hn (fun W u B T hw h _ => sPuzzleText_no u xs W h.1.src hP hw.clue) (fun W u B T hw h _ => iPuzzleText_no u xs W h.1.src hP hw.clue hw.tab)
  · exact long_PuzzleText v xs w hA hn

theorem clueTab_PuzzleText {W : World} (hL : laidMetH Tryd.prog Rows.fnExactPuzzleTextRow.laid W) (hsh : W.ShapedOpen Tryd.prog) : ClueTab W := ⟨clueW_PuzzleText hL hsh, tabW_PuzzleText hL hsh⟩

end Go.Proofs.YtbgcbokddldmkaaDoor
