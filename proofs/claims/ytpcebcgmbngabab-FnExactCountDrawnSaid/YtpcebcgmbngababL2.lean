/- All loops listed: both sides, and the law of AllLoops. -/
import Derived.Test.YtpcebcgmbngababJQ
import Derived.Test.YtpcebcgmbngababVC
namespace Go.Proofs.Ytpcebcgmbngabab
open Go.RowKit
set_option linter.unusedVariables false

/-- All loops with n crossings, in their order. -/
def loopsT (n : Nat) : List ByteArray := (List.range (waysN 0 n)).map fun r => txL (rankedL n r)

theorem loopsT_length (n : Nat) : (loopsT n).length = waysN 0 n := by simp [loopsT]

theorem loopsT_get (n r : Nat) (h : r < waysN 0 n) : (loopsT n).getD r ⟨#[]⟩ = txL (rankedL n r) := by simp [loopsT, List.getD, h]

def loopsTo (n k : Nat) : List ByteArray := (loopsT n).take k

theorem loopsTo_succ (n k : Nat) (h : k < waysN 0 n) : loopsTo n k ++ [txL (rankedL n k)] = loopsTo n (k + 1) := by
  unfold loopsTo
  rw [List.take_add_one, List.getElem?_eq_getElem (by rw [loopsT_length]; exact h)]
  have := loopsT_get n k h
  rw [List.getD, List.getElem?_eq_getElem (by rw [loopsT_length]; exact h)] at this
  simp only [Option.getD_some] at this
  rw [this]
  rfl

theorem loopsTo_length (n k : Nat) (h : k ≤ waysN 0 n) : (loopsTo n k).length = k := by
  unfold loopsTo
  rw [List.length_take, loopsT_length]
  omega

theorem loopsTo_all (n : Nat) : loopsTo n (waysN 0 n) = loopsT n := by
  unfold loopsTo
  rw [← loopsT_length, List.take_length]

def fillT (n k : Nat) : List ByteArray := loopsTo n k ++ List.replicate (waysN 0 n - k) ⟨#[]⟩

theorem fillT_length (n k : Nat) (h : k ≤ waysN 0 n) : (fillT n k).length = waysN 0 n := by
  unfold fillT
  rw [List.length_append, loopsTo_length n k h, List.length_replicate]
  omega

theorem fillT_set (n k : Nat) (h : k < waysN 0 n) : (fillT n k).set k (txL (rankedL n k)) = fillT n (k + 1) := by
  unfold fillT
  have hl := loopsTo_length n k (by omega)
  rw [List.set_append_right _ _ (by omega), hl, Nat.sub_self, show waysN 0 n - k = (waysN 0 n - (k + 1)) + 1 by omega, List.replicate_succ, List.set_cons_zero, ← loopsTo_succ n k h]
  simp

theorem ways4 (n : Nat) (h : n ≤ 4) : waysN 0 n ≤ 105 := by
  have : ∀ k : Fin 5, waysN 0 k.1 ≤ 105 := by decide +kernel
  exact this ⟨n, by omega⟩

theorem info_strA : (Try.prog.info? 9).map (fun i => (i.zero, i.size, i.bytes)) = some (some (.string ⟨#[]⟩), 1, 16) := by kernel_rfl

set_option maxRecDepth 100000 in
theorem make_strA (n : Nat) (hn : n ≤ 1000000) :
    ∀ W : World, (Instr.makeSlice 32 (.int .i64 (n : Int)) (.int .i64 (n : Int))).run Try.prog W = .ok (.slice (some ⟨W.heap.size, 0, none⟩) n n) (W.alloc (.cells (Array.replicate n (Value.string ⟨#[]⟩)) 9)) := by
  intro W
  obtain ⟨i, hi, hz0, hz1, hz2⟩ := info_parts info_strA
  have := run_make (P := Try.prog) W 32 9 i (.string ⟨#[]⟩) Try.underlying32 hi hz0 .i64 .i64 (n : Int) (n : Int) (by omega) (Int.le_refl _) (by rw [hz2]; omega) (by omega)
  rw [this, hz1]
  congr 3
  · congr 1
    apply Array.ext_getElem?
    intro j
    by_cases h : j < n
    · simp [madeCells, h, Nat.mod_one, Value.cells]
    · simp [madeCells, h, Value.cells]

theorem Strs.made (W : World) (B n : Nat) (hB : B ≤ W.heap.size) (hn : n ≤ 1000000) :
    Strs (W.alloc (.cells (Array.replicate n (Value.string ⟨#[]⟩)) 9)) B 9 (.slice (some ⟨W.heap.size, 0, none⟩) n n) (List.replicate n ⟨#[]⟩) :=
  ⟨by simp, .inr ⟨W.heap.size, n, _, by simp, hB, heap_alloc_new W _, by simp, by unfold maxLen; omega, by simp, by simp⟩⟩

set_option maxHeartbeats 1000000 in
set_option maxRecDepth 100000 in
theorem iAllLoops_yes (n : Nat) (w : World) (h4 : n ≤ 4) :
    Calls Try.prog 21 #[.int .i64 n] w (Gives (StrsIn 9) w (loopsT n) true) := by
  have hc4 := ways4 n h4
  have HCL := Lib.hid (fun W => implCountLoops_yes n W (by omega))
  have HLR := Lib.hid (fun r W (hr : r < waysN 0 n) => loopOfRank_any n r W (by omega) hr)
  have HS := Lib.hid (fun k (h : k < waysN 0 n) => fillT_set n k h)
  have HL := Lib.hid (fun k (h : k ≤ waysN 0 n) => fillT_length n k h)
  have h0 : fillT n 0 = List.replicate (waysN 0 n) ⟨#[]⟩ := by simp [fillT, loopsTo]
  have hE : fillT n (waysN 0 n) = loopsT n := by simp [fillT, loopsTo_all]
  obtain ⟨c, hc⟩ : ∃ c, waysN 0 n = c := ⟨_, rfl⟩
  rw [hc] at HCL HLR HS HL h0 hE hc4
  have hmk := make_strA c (by omega)
  have HI0 := Lib.hid (fun W : World => show Strs (W.alloc (.cells (Array.replicate c (Value.string ⟨#[]⟩)) 9)) W.heap.size 9 (.slice (some ⟨W.heap.size, 0, none⟩) c c) (fillT n 0) by rw [h0]; exact Strs.made W W.heap.size c (Nat.le_refl _) (by omega))
  have HE := Lib.hid hE
  have hn4 : ¬ (4 : Int) < (n : Int) := by omega
  clear h0 hE hc
  go_enter Try.func21, Try.ntmps21
  go_wp2_with (first | (go_at_call 13; (with_reducible refine (HCL.out _).mono ?_); rintro e w1 ⟨rfl, hb1⟩))
  clear hmk
  have HB1 := Lib.hid hb1
  have hz1 := hb1.size
  clear hb1
  go_loopw [23] (fun i wr => ∃ k : Nat, k ≤ c ∧ i = .int .i64 k ∧ Strs wr w1.heap.size 9 (.slice (some ⟨w1.heap.size, 0, none⟩) c c) (fillT n k) ∧ Below w1.heap.size w1 wr) (fun i _ => c - (intOf i).toNat)
  case atStart => exact ⟨0, by omega, rfl, HI0.out w1, by go_grown⟩
  case round =>
    obtain ⟨k, hk, rfl, hS, hB⟩ := hrel
    have HS2 := Lib.hid hS
    have HB := Lib.hid hB
    have hz := hB.size
    clear hS hB
    by_cases hlt : k < c
    · have k0 : 0 ≤ (k : Int) := by omega
      have k1 : (k : Int) < (c : Int) := by omega
      go_wp2_with (first | (go_at_call 52; (with_reducible refine (HLR.out k _ hlt).mono ?_); rintro e w3 ⟨rfl, hb3⟩; (have hS3 := HS2.out.later hb3); (have hc3 := (hS3.cellAt k (by rw [HL.out k hk]; exact hlt)).1); (have hf3 := (hS3.cellAt k (by rw [HL.out k hk]; exact hlt)).2); (have HS3 := Lib.hid hS3); (have HB3 := Lib.hid (HB.out.trans (hb3.mono hz))); clear hS3))
      go_roundw
      case rel =>
        have hst := HS3.out.stored k (txL (rankedL n k))
        rw [HS.out k hlt] at hst
        exact ⟨k + 1, by omega, by go_num, hst.1, HB3.out.setCell (Nat.le_refl _) _⟩
      case measure => simp [intOf]; omega
    · obtain rfl : k = c := by omega
      go_wp2
      go_ret2
      have hS := HS2.out
      rw [HE.out] at hS
      exact ⟨_, rfl, ⟨hS.mono hz1, fun q hq => (hS.own q hq).2⟩, HB1.out.trans (HB.out.mono hz1)⟩

theorem noStrs {w w' : World} (hb : Below w.heap.size w w') : Gives (StrsIn 9) w [] false (.returned (.tuple #[.slice none 0 0, .bool false])) w' :=
  ⟨_, rfl, ⟨World.ownsRow_nil _ _ _ _, fun k hk => by simp [Value.ownBlock] at hk⟩, hb⟩

set_option maxHeartbeats 400000 in
theorem iAllLoops_no1 (n : Int) (w : World) (h : ¬ (0 ≤ n ∧ n ≤ 8)) : Calls Try.prog 21 #[.int .i64 n] w (Gives (StrsIn 9) w [] false) := by
  go_enter Try.func21, Try.ntmps21
  go_wp2_with (first | (go_at_call 13; (with_reducible refine (implCountLoops_no n _ h).mono ?_); rintro e w1 ⟨rfl, hb1⟩))
  go_ret2
  exact noStrs hb1

set_option maxHeartbeats 400000 in
theorem iAllLoops_no2 (n : Nat) (w : World) (h8 : n ≤ 8) (h4 : 4 < (n : Int)) : Calls Try.prog 21 #[.int .i64 n] w (Gives (StrsIn 9) w [] false) := by
  have HCL := Lib.hid (fun W => implCountLoops_yes n W (by omega))
  obtain ⟨c, hc⟩ : ∃ c, waysN 0 n = c := ⟨_, rfl⟩
  rw [hc] at HCL
  clear hc
  go_enter Try.func21, Try.ntmps21
  go_wp2_with (first | (go_at_call 13; (with_reducible refine (HCL.out _).mono ?_); rintro e w1 ⟨rfl, hb1⟩))
  go_ret2
  exact noStrs hb1

set_option maxHeartbeats 400000 in
theorem sAllLoops_no (n : Int) (w : World) (h : ¬ (0 ≤ n ∧ n ≤ 4)) : Calls Try.prog 20 #[.int .i64 n] w (Gives (StrsIn 9) w [] false) := by
  go_enter Try.func20, Try.ntmps20
  go_wp2_with (first | (go_at_call 47; with_reducible refine (l1In_no _ _ _ _ h).mono ?_; rintro e w1 ⟨rfl, rfl⟩))
  go_ret2
  exact noStrs (Below.refl _ _)

set_option maxHeartbeats 1000000 in
set_option maxRecDepth 100000 in
theorem sAllLoops_yes (n : Nat) (w : World) (h4 : n ≤ 4) :
    Calls Try.prog 20 #[.int .i64 n] w (Gives (StrsIn 9) w (loopsT n) true) := by
  have hc4 := ways4 n h4
  have HCL := Lib.hid (fun W => show Calls Try.prog 48 #[.int .i64 n] W fun e w' => e = .returned (.int .i64 (waysN 0 n)) ∧ W = w' by rw [waysN_nil]; exact loCount_any n W (by omega))
  have HLR := Lib.hid (fun r W (hr : r < waysN 0 n) => loRanked_any n r W (by omega) hr)
  have HS := Lib.hid (fun k (h : k < waysN 0 n) => loopsTo_succ n k h)
  have HL := Lib.hid (fun k (h : k ≤ waysN 0 n) => loopsTo_length n k h)
  have h0 : loopsTo n 0 = [] := rfl
  have hE := loopsTo_all n
  obtain ⟨c, hc⟩ : ∃ c, waysN 0 n = c := ⟨_, rfl⟩
  rw [hc] at HCL HLR HS HL hE hc4
  have HE := Lib.hid hE
  have HIN : 0 ≤ (n : Int) ∧ (n : Int) ≤ 4 := by omega
  have HI := Lib.hid HIN
  clear hE hc HIN
  go_enter Try.func20, Try.ntmps20
  go_wp2_with (first | (go_at_call 47; with_reducible refine (l1In_yes _ _ _ _ HI.out).mono ?_; rintro e w1 ⟨rfl, rfl⟩))
  go_loopw [4, 5] (fun v i wr => ∃ k : Nat, k ≤ c ∧ i = .int .i64 k ∧ Strs wr w.heap.size 9 v (loopsTo n k) ∧ Below w.heap.size w wr) (fun _ i _ => c - (intOf i).toNat)
  case atStart => exact ⟨0, by omega, rfl, by rw [h0]; exact World.ownsRow_nil _ _ _ _, Below.refl _ _⟩
  case round =>
    obtain ⟨k, hk, rfl, hS, hB⟩ := hrel
    have HS2 := Lib.hid hS
    have HB := Lib.hid hB
    have hz := hB.size
    clear hS hB
    by_cases hlt : k < c
    · have k1 : (k : Int) < (c : Int) := by omega
      have hwk : IntKind.i64.wrap ((k : Int) + 1) = (k : Int) + 1 := by rw [IntKind.wrap_i64]; omega
      go_wp2_with (first
        | (go_at_call 48; (with_reducible refine (HCL.out _).mono ?_); rintro e w1 ⟨rfl, rfl⟩)
        | (go_at_call 51; (with_reducible refine (HLR.out k _ hlt).mono ?_); rintro e w3 ⟨rfl, hb3⟩; (have hz3 := hb3.size); (have HS3 := Lib.hid (HS2.out.later hb3)); (have HB3 := Lib.hid (HB.out.trans (hb3.mono hz))))
        | (at_builtin; refine wpList_append_str rfl _ _ 32 rfl w.heap.size 9 Try.underlying32 info_strA _ _ rfl HS3.out (txL (rankedL n k)) rfl (by rw [HL.out k hk]; omega) (by omega) ?_; intro v' w' hS4 hg4; (have HB4 := Lib.hid (HS3.out.below HB3.out (by omega) hg4)); rw [HS.out k hlt] at hS4; (have HS4 := Lib.hid hS4); clear hS4 hg4))
      go_roundw
      case rel => exact ⟨k + 1, by omega, by go_num, HS4.out, HB4.out⟩
      case measure => simp [intOf]; omega
    · obtain rfl : k = c := by omega
      go_wp2_with (first | (go_at_call 48; (with_reducible refine (HCL.out _).mono ?_); rintro e w1 ⟨rfl, rfl⟩))
      go_ret2
      have hS := HS2.out
      rw [HE.out] at hS
      exact ⟨_, rfl, ⟨hS, fun q hq => (hS.own q hq).2⟩, HB.out⟩

set_option maxHeartbeats 400000 in
theorem core_AllLoops (n : Int) (x : List ByteArray)  (b : Bool) (w : World) (hx : x.length ≤ 1000000)
    (hs : ∀ W, Calls Try.prog 20 #[.int .i64 n] W (Gives (StrsIn 9) W x b)) (hi : ∀ W, Calls Try.prog 21 #[.int .i64 n] W (Gives (StrsIn 9) W x b)) :
    Calls Try.prog 7 #[.int .i64 n] w fun e w' => e = .returned (.bool true) ∧ Below w.heap.size w w' := by
  have HS := Lib.hid hs
  have HI := Lib.hid hi
  clear hs hi
  go_enter Try.func7, Try.ntmps7
  go_wp2_with fail
  refine (HS.out _).mono ?_
  rintro e w1 ⟨vw, rfl, kw_1, hb1⟩
  have n1 : w.heap.size ≤ w1.heap.size := by have := hb1.size; (try simp at this); omega
  have B1 : Below w.heap.size w w1 := Below.trans (by go_grown) (hb1.mono (by first | (simp; done) | (simp; omega)))
  go_wp2_with fail
  refine (HI.out _).mono ?_
  rintro e w2 ⟨vg, rfl, kg_2, hb2⟩
  have n2 := hb2.size
  have B2 := B1.trans (hb2.mono (by omega))
  have kw_2 := kw_1.keep (belowSame hb2 (by omega))
  go_wp2_with fail
  refine (eqStringS_in _ _ x _ _ _ _ _ _ kg_2 kw_2).mono ?_
  rintro e w3 ⟨rfl, hb3⟩
  have n3 := hb3.size
  have B3 := B2.trans (hb3.mono (by omega))
  have kw_3 := kw_2.keep (belowSame hb3 (by omega))
  have kg_3 := kg_2.keep (belowSame hb3 (by omega))
  go_wp2_with fail
  refine (markStringS_in _ x 1 _ _ _ _ kg_3 (by omega) (by omega) (by omega)).mono ?_
  rintro e w4 ⟨rfl, mg_4, o4⟩
  have n4 := o4.size
  have B4 := B3.trans (o4.below (C := w.heap.size) (by omega) (by omega))
  have kw_4 := kw_3.keep (o4.same_in (by omega) (by omega))
  have kg_4 := mg_4
  go_wp2_with fail
  refine (heldStringS_in _ 1 x.length _ _ _ _ kg_4 (by omega) (by omega) (by omega)).mono ?_
  rintro e w5 ⟨rfl, hb5⟩
  have n5 := hb5.size
  have B5 := B4.trans (hb5.mono (by omega))
  have kw_5 := kw_4.keep (belowSame hb5 (by omega))
  have kg_5 := kg_4.keep (belowSame hb5 (by omega))
  go_wp2_with fail
  refine (HI.out _).mono ?_
  rintro e w6 ⟨vh, rfl, kh_6, hb6⟩
  have n6 := hb6.size
  have B6 := B5.trans (hb6.mono (by omega))
  have kw_6 := kw_5.keep (belowSame hb6 (by omega))
  have kg_6 := kg_5.keep (belowSame hb6 (by omega))
  go_wp2_with fail
  refine (eqStringS_in _ _ x _ _ _ _ _ _ kh_6 kw_6).mono ?_
  rintro e w7 ⟨rfl, hb7⟩
  have n7 := hb7.size
  have B7 := B6.trans (hb7.mono (by omega))
  have kw_7 := kw_6.keep (belowSame hb7 (by omega))
  have kg_7 := kg_6.keep (belowSame hb7 (by omega))
  have kh_7 := kh_6.keep (belowSame hb7 (by omega))
  go_wp2_with fail
  refine (heldStringS_in _ 1 x.length _ _ _ _ kg_7 (by omega) (by omega) (by omega)).mono ?_
  rintro e w8 ⟨rfl, hb8⟩
  have n8 := hb8.size
  have B8 := B7.trans (hb8.mono (by omega))
  have kw_8 := kw_7.keep (belowSame hb8 (by omega))
  have kg_8 := kg_7.keep (belowSame hb8 (by omega))
  have kh_8 := kh_7.keep (belowSame hb8 (by omega))
  go_wp2_with fail
  go_ret
  exact ⟨rfl, B8⟩

theorem walk_AllLoops (n : Int) (w : World) (_ : (Lit.int .i64 n).wf = true) :
    Calls Try.prog 7 #[.int .i64 n] w fun e w' => e = .returned (.bool true) ∧ Below w.heap.size w w' := by
  by_cases h : 0 ≤ n ∧ n ≤ 8
  · obtain ⟨k, rfl⟩ := Int.eq_ofNat_of_zero_le h.1
    by_cases h4 : k ≤ 4
    · have := ways4 k h4
      exact core_AllLoops _ (loopsT k) true w (by rw [loopsT_length]; omega) (fun W => sAllLoops_yes k W h4) (fun W => iAllLoops_yes k W h4)
    · exact core_AllLoops _ [] false w (by simp) (fun W => sAllLoops_no _ W (by omega)) (fun W => iAllLoops_no2 k W (by omega) (by omega))
  · exact core_AllLoops _ [] false w (by simp) (fun W => sAllLoops_no n W (by omega)) (fun W => iAllLoops_no1 n W h)

end Go.Proofs.Ytpcebcgmbngabab
