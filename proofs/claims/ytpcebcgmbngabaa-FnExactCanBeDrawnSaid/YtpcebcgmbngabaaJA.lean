/- Loops: the letters interlaced with one: both sides of InterlacedWith and IsEvenLoop. -/
import Derived.Test.YtpcebcgmbngabaaJ9
namespace Go.Proofs.Ytpcebcgmbngabaa
open Go.RowKit
set_option linter.unusedVariables false

/-- The letters below n of which c holds. -/
def oneT (c : Nat → Bool) (n : Nat) : List UInt8 := ((List.range n).filter c).map lt8

theorem oneT_sel (c : Nat → Bool) (n : Nat) : letT (selT c n) = oneT c n := by
  unfold letT selT oneT
  rw [List.map_map]
  exact List.map_congr_left fun k _ => by simp

theorem oneT_length (c : Nat → Bool) (n : Nat) : (oneT c n).length ≤ n := by
  have := List.length_filter_le c (List.range n)
  rw [List.length_range] at this
  simpa [oneT] using this

theorem oneT_yes {c : Nat → Bool} {n : Nat} (h : c n = true) : oneT c (n + 1) = oneT c n ++ [lt8 n] := by
  simp [oneT, List.range_succ, List.filter_append, h]

theorem oneT_no {c : Nat → Bool} {n : Nat} (h : c n = false) : oneT c (n + 1) = oneT c n := by
  simp [oneT, List.range_succ, List.filter_append, h]

theorem selT_bd (c : Nat → Bool) (n : Nat) (hn : n ≤ 16) : ∀ i, i < (selT c n).length → 0 ≤ (selT c n).getD i 0 ∧ (selT c n).getD i 0 < 16 := by
  intro i hi
  rw [List.getD, List.getElem?_eq_getElem hi]
  have hm := List.getElem_mem hi
  unfold selT at hm
  rw [List.mem_map] at hm
  obtain ⟨k, hk, e⟩ := hm
  have := List.mem_range.1 ((List.mem_filter.1 hk).1)
  simp only [Option.getD_some]
  rw [show (selT c n)[i] = (k : Int) from e.symm]
  omega

/-- The numbers of a step over the letters: 97 + k as a sign. -/
theorem sign_of (k : Nat) (h : k < 100) : ∃ d : Nat, d = 97 + k ∧ 97 + (k : Int) = (d : Int) ∧ IntKind.i64.wrap (d : Int) = (d : Int) ∧ IntKind.u8.wrap (d : Int) = (d : Int) :=
  ⟨97 + k, rfl, by simp, by rw [IntKind.wrap_i64]; omega, IntWalk.u8_in _ (by omega)⟩

theorem idx_nil (c : ByteArray) : ∃ o : Bool, ∃ z : Int, ∀ W, Calls Try.prog 45 #[.slice none 0 0, .string c] W fun e w' => e = .returned (.tuple #[.int .i64 z, .bool o]) ∧ W = w' := by
  by_cases h1 : c.size = 1
  · by_cases h2 : (c.data.toList.getD 0 0).toNat < 97
    · exact ⟨false, ((c.data.toList.getD 0 0).toNat : Int) - 97, fun W => (indexOf_less none 0 0 _ c W h1 rfl h2).mono fun e w' ⟨z, he, hz, hw⟩ => ⟨by rw [he, hz], hw⟩⟩
    · exact ⟨false, ((c.data.toList.getD 0 0).toNat : Int) - 97, fun W => (indexOf_more none 0 0 _ c W h1 rfl (by omega) (by omega)).mono fun e w' ⟨z, he, hz, hw⟩ => ⟨by rw [he, hz], hw⟩⟩
  · exact ⟨false, 0, fun W => indexOf_long none 0 0 c W h1⟩

set_option maxHeartbeats 2000000 in
set_option maxRecDepth 100000 in
theorem loWith_any (t : ByteArray) (ps : List (Nat × Nat)) (x dx : Nat) (w : World) (h : LoopP t.data.toList ps) (hx : x < ps.length) (hdx : dx = 97 + x) :
    Calls Try.prog 47 #[.string t, .int .u8 dx] w fun e w' => e = .returned (.string (txL (oneT (lacedP ps x) ps.length))) ∧ w = w' := by
  have hs := h.size
  have hfew := h.few
  have HLC := Lib.hid (fun k dk (hk : k < ps.length) (hdk : dk = 97 + k) W => loLaced_any t ps x k dx dk W h hx hk hdx hdk)
  obtain ⟨n, hn⟩ : ∃ n, ps.length = n := ⟨_, rfl⟩
  obtain ⟨m, hm⟩ : ∃ m, t.size = m := ⟨_, rfl⟩
  rw [hn] at hs hfew ⊢
  rw [hm] at hs
  have hd : Int.tdiv (m : Int) 2 = (n : Int) := by rw [Int.tdiv_eq_ediv_of_nonneg (by omega)]; omega
  have hwn : IntKind.i64.wrap (n : Int) = (n : Int) := by rw [IntKind.wrap_i64]; omega
  have HN := Lib.hid hn
  clear hs h hdx hx hn
  obtain ⟨C, hC⟩ : ∃ C, lacedP ps x = C := ⟨_, rfl⟩
  rw [hC] at HLC ⊢
  clear hC
  go_enter Try.func47, Try.ntmps47
  go_wp2
  go_loopw [5, 6] (fun o i wr => ∃ k : Nat, k ≤ n ∧ i = .int .i64 k ∧ o = .string (txL (oneT C k)) ∧ w = wr) (fun _ i _ => n - (intOf i).toNat)
  case atStart => exact ⟨0, by omega, rfl, rfl, rfl⟩
  case round =>
    obtain ⟨k, hk, rfl, rfl, rfl⟩ := hrel
    by_cases hlt : k < n
    · obtain ⟨d, hdk, h97, hw1, hw2⟩ := sign_of k (by omega)
      have HD := Lib.hid hdk
      have hab := abc_one ⟨k, by omega⟩
      simp only at hab
      have hol := oneT_length C k
      have hsz := txL_size (oneT C k)
      obtain ⟨O, hO⟩ : ∃ O, txL (oneT C k) = O := ⟨_, rfl⟩
      rw [hO] at hsz ⊢
      have hadd := txAdd O ((⟨#[97, 98, 99, 100, 101, 102, 103, 104, 105, 106, 107, 108, 109, 110, 111, 112]⟩ : ByteArray).extract k (k + 1)) (by rw [hab, txL_size]; simp; omega)
      have HOT := Lib.hid (show O ++ (⟨#[97, 98, 99, 100, 101, 102, 103, 104, 105, 106, 107, 108, 109, 110, 111, 112]⟩ : ByteArray).extract k (k + 1) = txL (oneT C k ++ [lt8 k]) by rw [hab, ← hO, txL_append])
      have HO := Lib.hid hO
      have hwk : IntKind.i64.wrap ((k : Int) + 1) = (k : Int) + 1 := by rw [IntKind.wrap_i64]; omega
      clear hab hdk hO hsz hol
      cases hc : C k with
      | true =>
        have HC := Lib.hid hc
        rw [HOT.out, ← oneT_yes hc] at hadd
        clear hc
        go_wp2_with (first | (go_at_call 44; (with_reducible refine (HLC.out k d (by rw [HN.out]; exact hlt) HD.out _).mono ?_); rintro e w1 ⟨rfl, rfl⟩; rw [HC.out]))
        go_roundw
        case rel => exact ⟨k + 1, by omega, by go_num, by first | rfl | (rw [oneT_yes HC.out, ← HOT.out]), by trivial⟩
        case measure => simp [intOf]; omega
      | false =>
        have HC := Lib.hid hc
        clear hc hadd
        go_wp2_with (first | (go_at_call 44; (with_reducible refine (HLC.out k d (by rw [HN.out]; exact hlt) HD.out _).mono ?_); rintro e w1 ⟨rfl, rfl⟩; rw [HC.out]))
        go_roundw
        case rel => exact ⟨k + 1, by omega, by go_num, by rw [oneT_no HC.out, HO.out], by trivial⟩
        case measure => simp [intOf]; omega
    · obtain rfl : k = n := by omega
      go_wp2
      go_ret
      exact ⟨rfl, rfl⟩

set_option maxHeartbeats 1000000 in
theorem core_InterlacedWith (t : ByteArray) (a : ByteArray) (x : ByteArray) (y : Bool) (w : World) (ht0 : t.size ≤ 1048576) (ht1 : a.size ≤ 1048576)
    (hs : ∀ W : World, Calls Try.prog 21 #[.string t, .string a] W fun e w' => e = .returned (.tuple #[.string x, .bool y]) ∧ Below W.heap.size W w')
    (hi : ∀ W : World, Calls Try.prog 22 #[.string t, .string a] W fun e w' => e = .returned (.tuple #[.string x, .bool y]) ∧ Below W.heap.size W w') :
    Calls Try.prog 6 #[.string t, .string a] w fun e w' => e = .returned (.bool true) ∧ Below w.heap.size w w' := by
  have HS := Lib.hid hs
  have HI := Lib.hid hi
  have h0 : ¬ 1048576 < (t.size : Int) := by omega
  have h1 : ¬ 1048576 < (a.size : Int) := by omega
  clear hs hi ht0 ht1
  go_enter Try.func6, Try.ntmps6
  go_wp2_with (first | (go_at_call 21; (with_reducible refine (HS.out _).mono ?_); rintro e w1 ⟨rfl, hb1⟩) | (go_at_call 22; (with_reducible refine (HI.out _).mono ?_); rintro e w2 ⟨rfl, hb2⟩))
  go_ret
  exact ⟨rfl, hb1.trans (hb2.mono hb1.size)⟩

set_option maxHeartbeats 400000 in
theorem long0_InterlacedWith (t : ByteArray) (a : ByteArray) (w : World)  (ht : 1048576 < (t.size : Int)) :
    Calls Try.prog 6 #[.string t, .string a] w fun e w' => e = .returned (.bool true) ∧ Below w.heap.size w w' := by
  go_enter Try.func6, Try.ntmps6
  go_wp2
  go_ret
  exact ⟨rfl, Below.refl _ _⟩

set_option maxHeartbeats 400000 in
theorem long1_InterlacedWith (t : ByteArray) (a : ByteArray) (w : World) (h0 : ¬ 1048576 < (t.size : Int)) (ht : 1048576 < (a.size : Int)) :
    Calls Try.prog 6 #[.string t, .string a] w fun e w' => e = .returned (.bool true) ∧ Below w.heap.size w w' := by
  go_enter Try.func6, Try.ntmps6
  go_wp2
  go_ret
  exact ⟨rfl, Below.refl _ _⟩

set_option maxHeartbeats 1000000 in
theorem sInterlacedWith_bad (t a : ByteArray) (ps : List (Nat × Nat)) (w : World) (ht : t.size ≤ 1048576) (hg : goodL t.data.toList = false) :
    Calls Try.prog 21 #[.string t, .string a] w fun e w' => e = .returned (.tuple #[.string ⟨#[]⟩, .bool false]) ∧ Below w.heap.size w w' := by
  have HG := Lib.hid hg
  clear hg
  go_enter Try.func21, Try.ntmps21
  go_wp2_with (first | (go_at_call 39; (with_reducible refine (loGood_any t _ ht).mono ?_); rintro e w1 ⟨rfl, hb1⟩; rw [HG.out]))
  go_ret2
  exact ⟨rfl, hb1⟩

set_option maxHeartbeats 1000000 in
theorem sInterlacedWith_no1 (t a : ByteArray) (ps : List (Nat × Nat)) (w : World) (ht : t.size ≤ 1048576) (hg : goodL t.data.toList = true) (hs : t.size = 2 * ps.length) (hfew : ps.length ≤ 8) (hx : letK a ps.length = none) :
    Calls Try.prog 21 #[.string t, .string a] w fun e w' => e = .returned (.tuple #[.string ⟨#[]⟩, .bool false]) ∧ Below w.heap.size w w' := by
  have HG := Lib.hid hg
  clear hg
  go_enter Try.func21, Try.ntmps21
  go_wp2_with (first | (go_at_call 39; (with_reducible refine (loGood_any t _ ht).mono ?_); rintro e w1 ⟨rfl, hb1⟩; rw [HG.out]) | (go_at_call 43; (with_reducible refine (loLetter_none t a _ _ hs hfew hx).mono ?_); rintro e w2 ⟨rfl, rfl⟩))
  go_ret2
  exact ⟨rfl, hb1⟩

set_option maxHeartbeats 1000000 in
theorem sInterlacedWith_yes (t a : ByteArray) (ps : List (Nat × Nat)) (x : Nat) (w : World) (ht : t.size ≤ 1048576) (h : LoopP t.data.toList ps) (hg : goodL t.data.toList = true) (hx : letK a ps.length = some x) :
    Calls Try.prog 21 #[.string t, .string a] w fun e w' => e = .returned (.tuple #[.string (txL (oneT (lacedP ps x) ps.length)), .bool true]) ∧ Below w.heap.size w w' := by
  have HG := Lib.hid hg
  have HX := Lib.hid hx
  have HS := Lib.hid h.size
  obtain ⟨x1, x2, x3⟩ := letK_some hx
  obtain ⟨dx, hdx⟩ : ∃ d, (a.data.toList.getD 0 0).toNat = d := ⟨_, rfl⟩
  have ax : 0 < a.size := by omega
  have ha : (a[0]'ax).toNat = dx := by rw [tx_get a 0 ax]; exact hdx
  rw [hdx] at x2
  have ax2 : (0 : Int) < (a.size : Int) := by omega
  have HLC := Lib.hid (fun W => loWith_any t ps x dx W h x3 x2)
  have hfew := h.few
  clear hg h hx hdx x1 x2
  go_enter Try.func21, Try.ntmps21
  go_wp2_with (first | (go_at_call 39; (with_reducible refine (loGood_any t _ ht).mono ?_); rintro e w1 ⟨rfl, hb1⟩; rw [HG.out]) | (go_at_call 43; (with_reducible refine (loLetter_some t a _ x _ HS.out hfew HX.out).mono ?_); rintro e w2 ⟨rfl, rfl⟩) | (go_at_call 47; (with_reducible refine (HLC.out _).mono ?_); rintro e w3 ⟨rfl, rfl⟩))
  go_ret2
  exact ⟨rfl, hb1⟩

set_option maxHeartbeats 1000000 in
theorem iInterlacedWith_yes (t a : ByteArray) (ps : List (Nat × Nat)) (x : Nat) (w : World) (ht : t.size ≤ 1048576) (h8 : ps.length ≤ 8) (hl : loopL t.data.toList = some ps) (hx : letK a ps.length = some x) :
    Calls Try.prog 22 #[.string t, .string a] w fun e w' => e = .returned (.tuple #[.string (txL (oneT (lacedP ps x) ps.length)), .bool true]) ∧ Below w.heap.size w w' := by
  have HL := Lib.hid hl
  have HX := Lib.hid hx
  obtain ⟨x1, x2, x3⟩ := letK_some hx
  have HT := Lib.hid (oneT_sel (lacedP ps x) ps.length)
  have HSL := Lib.hid (selT_length (lacedP ps x) ps.length)
  clear hl hx x1 x2
  go_enter Try.func22, Try.ntmps22
  go_wp2_with (first | (go_at_call 40; (with_reducible refine (loopOf_yes t ps _ ht HL.out).mono ?_); rintro e w1 ⟨a0, cap, rfl, hP, hb1⟩; (have hz1 := hb1.size); (have HP := Lib.hid hP); clear hP) | (go_at_call 45; with_reducible refine (indexOf_some _ _ _ x a _ HX.out).mono ?_; rintro e w2 ⟨rfl, rfl⟩) | (go_at_call 49; (refine (withOne_any _ _ _ ps _ _ x _ (HP.out.keep (belowSame (by go_grown) (Nat.le_refl _))) (by simp) x3 h8).mono ?_); rintro e w3 ⟨v3, rfl, hI3, hb3⟩; (have hz3 := hb3.size); (rw [World.size_alloc] at hz3)) | (go_at_call 48; (refine (textOfLetters_any _ _ _ _ _ hI3.inn (Nat.le_refl _) (by have := HSL.out; omega) (selT_bd _ _ (by omega))).mono ?_); rintro e w4 ⟨rfl, hb4⟩; rw [HT.out]))
  go_ret2
  exact ⟨rfl, Below.trans (Below.trans (Below.trans hb1 (by go_grown)) (hb3.mono (by simp; omega))) (hb4.mono (by omega))⟩

set_option maxHeartbeats 400000 in
theorem iInterlacedWith_bad (t a : ByteArray) (w : World) (ht : t.size ≤ 1048576) (hl : loopL t.data.toList = none) :
    Calls Try.prog 22 #[.string t, .string a] w fun e w' => e = .returned (.tuple #[.string ⟨#[]⟩, .bool false]) ∧ Below w.heap.size w w' := by
  have HL := Lib.hid hl
  have hn := idx_nil a
  obtain ⟨o1, z1, h1⟩ := hn
  have H1 := Lib.hid h1
  clear hl h1
  go_enter Try.func22, Try.ntmps22
  go_wp2_with (first | (go_at_call 40; (with_reducible refine (loopOf_no t _ ht HL.out).mono ?_); rintro e w1 ⟨rfl, hb1⟩; (have hz1 := hb1.size)) | (go_at_call 45; with_reducible refine (H1.out _).mono ?_; rintro e w2 ⟨rfl, rfl⟩))
  go_ret2
  exact ⟨rfl, Below.trans hb1 (by go_grown)⟩

set_option maxHeartbeats 400000 in
theorem iInterlacedWith_no1 (t a : ByteArray) (ps : List (Nat × Nat)) (w : World) (ht : t.size ≤ 1048576) (hl : loopL t.data.toList = some ps) (hx : letK a ps.length = none) :
    Calls Try.prog 22 #[.string t, .string a] w fun e w' => e = .returned (.tuple #[.string ⟨#[]⟩, .bool false]) ∧ Below w.heap.size w w' := by
  have HL := Lib.hid hl
  have HX := Lib.hid hx
  clear hl hx
  go_enter Try.func22, Try.ntmps22
  go_wp2_with (first | (go_at_call 40; (with_reducible refine (loopOf_yes t ps _ ht HL.out).mono ?_); rintro e w1 ⟨a0, cap, rfl, hP, hb1⟩; (have hz1 := hb1.size); (have HP := Lib.hid hP); clear hP) | (go_at_call 45; with_reducible refine (indexOf_none _ _ _ a _ HX.out).mono ?_; rintro e w2 ⟨z1, rfl, rfl⟩))
  go_ret2
  exact ⟨rfl, Below.trans hb1 (by go_grown)⟩

theorem main_InterlacedWith (t a : ByteArray) (w : World) (ht0 : t.size ≤ 1048576) (ht1 : a.size ≤ 1048576) : Calls Try.prog 6 #[.string t, .string a] w fun e w' => e = .returned (.bool true) ∧ Below w.heap.size w w' := by
  cases hl : loopL t.data.toList with
  | none => exact core_InterlacedWith t a _ _ w ht0 ht1 (fun W => sInterlacedWith_bad t a [] W ht0 (loopL_none hl)) (fun W => iInterlacedWith_bad t a W ht0 hl)
  | some ps =>
    obtain ⟨h1, h2⟩ := loopL_some hl
    cases hx : letK a ps.length with
    | none => exact core_InterlacedWith t a _ _ w ht0 ht1 (fun W => sInterlacedWith_no1 t a ps W ht0 h2 h1.size h1.few hx) (fun W => iInterlacedWith_no1 t a ps W ht0 hl hx)
    | some x => exact core_InterlacedWith t a _ _ w ht0 ht1 (fun W => sInterlacedWith_yes t a ps x W ht0 h1 h2 hx) (fun W => iInterlacedWith_yes t a ps x W ht0 h1.few hl hx)

theorem walk_InterlacedWith (t : ByteArray) (a : ByteArray) (w : World) (wf0 : t.size ≤ maxLen) (wf1 : a.size ≤ maxLen) :
    Calls Try.prog 6 #[.string t, .string a] w fun e w' => e = .returned (.bool true) ∧ Below w.heap.size w w' := by
  by_cases h0 : 1048576 < (t.size : Int)
  · exact long0_InterlacedWith t a w  h0
  by_cases h1 : 1048576 < (a.size : Int)
  · exact long1_InterlacedWith t a w h0 h1
  exact main_InterlacedWith t a w (by omega) (by omega)

end Go.Proofs.Ytpcebcgmbngabaa
