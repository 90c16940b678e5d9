/- Crossings taken out: both sides, and the law of DropCrossing. -/
import Derived.Test.YtpcebcgmbngababDoorJU
import Derived.Test.YtpcebcgmbngababDoorJ8
import Derived.Test.YtpcebcgmbngababDoorSx
import Derived.WalkSmall
import Derived.Lib.SmallJoins
import Derived.Lib.SplitLaws
import Derived.MakeChecks
import Derived.Stop.LaidErr
import Derived.Shelf.Vars
namespace Go.Proofs.YtpcebcgmbngababDoor
open Go.RowKit
set_option linter.unusedVariables false

/-- The text without a sign. -/
def dropL (L : List UInt8) (c : UInt8) : List UInt8 := L.filter fun b => b != c

def dropTo (L : List UInt8) (c : UInt8) (k : Nat) : List UInt8 := dropL (L.take k) c

theorem dropTo_succ (L : List UInt8) (c : UInt8) (k : Nat) (h : k < L.length) : dropTo L c (k + 1) = if L.getD k 0 = c then dropTo L c k else dropTo L c k ++ [L.getD k 0] := by
  unfold dropTo dropL
  rw [take_succ_getD L k h, List.filter_append]
  by_cases e : L.getD k 0 = c
  · rw [if_pos e, List.filter_cons_of_neg (by rw [e]; simp), List.filter_nil, List.append_nil]
  · rw [if_neg e, List.filter_cons_of_pos (by simpa using e), List.filter_nil]

theorem dropL_length (L : List UInt8) (c : UInt8) : (dropL L c).length ≤ L.length := List.length_filter_le _ _

theorem repl_zero (c : UInt8) (s : List UInt8) : Lib.replaceK [c] [] 0 s = s := rfl

theorem repl_one (c : UInt8) : ∀ s : List UInt8, Lib.replaceK [c] [] (s.count c) s = dropL s c
  | [] => rfl
  | b :: l => by
    have ih := repl_one c l
    by_cases e : b = c
    · subst e
      have hi : Lib.index (b :: l) [b] = (0 : Nat) := by
        unfold Lib.index
        rw [if_pos (by simp [List.isPrefixOf])]
        rfl
      rw [List.count_cons_self, Lib.replaceK_hit [b] [] _ _ 0 hi]
      simp only [List.take_zero, List.nil_append, List.length_singleton, Nat.zero_add, List.drop_succ_cons, List.drop_zero]
      rw [ih]
      unfold dropL
      rw [List.filter_cons_of_neg (by simp)]
    · have hc : (b :: l).count c = l.count c := by rw [List.count_cons, if_neg (by simpa using e)]; rfl
      have hd : dropL (b :: l) c = b :: dropL l c := by
        unfold dropL
        rw [List.filter_cons_of_pos (by simpa using e)]
      rw [hc, hd, ← ih]
      cases hk : l.count c with
      | zero => rfl
      | succ k =>
        obtain ⟨i, hi⟩ := Lib.index_of_count (s := l) (old := [c]) (by rw [Lib.count_one, hk]; omega)
        have hi2 : Lib.index (b :: l) [c] = ((i + 1 : Nat) : Int) := by
          rw [Lib.index, if_neg (by simp [List.isPrefixOf]; exact fun h => e h.symm), hi, if_neg (by first | (simp; done) | (simp; omega))]
          simp
        rw [Lib.replaceK_hit [c] [] k _ i hi, Lib.replaceK_hit [c] [] k _ (i + 1) hi2]
        simp

theorem replAll_one (s : List UInt8) (c : UInt8) : Lib.replaceAll s [c] [] = dropL s c := by
  unfold Lib.replaceAll Lib.replace Lib.replaceNum
  rw [if_neg (by simp), if_pos (.inl (by omega)), Lib.count_one]
  exact repl_one c s

/-- What the library asks of the world: its own variable. -/
structure MaxW (w : World) : Prop where
  most : ∃ m, w.cell? ⟨0, 0, none⟩ = some (.int .i64 m)

theorem MaxW.later {w w' : World} (h : MaxW w) (hb : Below w.heap.size w w') : MaxW w' := by
  obtain ⟨m, hm⟩ := h.most
  exact ⟨m, (hb.cell (World.block_lt_of_cell? w _ hm)).trans hm⟩

theorem maxW_DropCrossing {W : World} (hL : laidMetH Tryd.prog Rows.fnExactDropCrossingRow.laid W) (hsh : W.ShapedOpen Tryd.prog) : MaxW W :=
  ⟨cell_of_shapedOpen_int (t := 3) (zero := #[.int .i64 0]) hsh (of_decide_eq_true (by kernel_rfl)) (by kernel_rfl) rfl (by kernel_rfl) (by kernel_rfl) Tryd.underlying3⟩

theorem Tryd.replExtra : Go.Proofs.Builder.Extra Tryd.prog Tryd.replL_ren where
  sizeBuilder := by kernel_rfl
  liesBuilder := by kernel_rfl
  t5 := Tryd.underlying5
  a5 := Tryd.isAgg5
  z5 := Tryd.sizeOf5
  v5 := Tryd.zeroValue5
  infoByte := by kernel_rfl
  cellsByte := by kernel_rfl
  sizeByte := by kernel_rfl
  neB5 := by decide

theorem one_list {a : ByteArray} (h : a.size = 1) : a.data.toList = [a.data.toList.getD 0 0] := by
  have hl := tx_len a
  rw [h] at hl
  obtain ⟨x, hx⟩ := List.length_eq_one_iff.1 hl
  rw [hx]
  rfl

theorem replaceAll_any (t a : ByteArray) (w : World) (ht : t.size ≤ 1048576) (ha : a.size = 1) (hN : MaxW w) :
    Calls Tryd.prog 12 #[.string t, .string a, .string ⟨#[]⟩] w fun e w' => e = .returned (.string (txL (dropL t.data.toList (a.data.toList.getD 0 0)))) ∧ Below w.heap.size w w' := by
  obtain ⟨m, hm⟩ := hN.most
  refine (Any.strings_ReplaceAll Tryd.replL Tryd.replExtra t a ⟨#[]⟩ m w (by omega) hm (by omega) (by show t.size + _ * 0 ≤ _; omega)).mono ?_
  rintro e w' ⟨rfl, hb⟩
  have : Lib.replaceAll t.data.toList a.data.toList (⟨#[]⟩ : ByteArray).data.toList = dropL t.data.toList (a.data.toList.getD 0 0) := by
    rw [one_list ha]
    exact replAll_one _ _
  exact ⟨by rw [this]; rfl, hb⟩

theorem dropIdx_nil (c : ByteArray) : ∃ o : Bool, ∃ z : Int, ∀ W, Calls Tryd.prog 10 #[.slice none 0 0, .string c] W fun e w' => e = .returned (.tuple #[.int .i64 z, .bool o]) ∧ W = w' := by
  by_cases h1 : c.size = 1
  · by_cases h2 : (c.data.toList.getD 0 0).toNat < 97
    · exact ⟨false, ((c.data.toList.getD 0 0).toNat : Int) - 97, fun W => (indexOf_less none 0 0 _ c W h1 rfl h2).mono fun e w' ⟨z, he, hz, hw⟩ => ⟨by rw [he, hz], hw⟩⟩
    · exact ⟨false, ((c.data.toList.getD 0 0).toNat : Int) - 97, fun W => (indexOf_more none 0 0 _ c W h1 rfl (by omega) (by omega)).mono fun e w' ⟨z, he, hz, hw⟩ => ⟨by rw [he, hz], hw⟩⟩
  · exact ⟨false, 0, fun W => indexOf_long none 0 0 c W h1⟩

set_option maxHeartbeats 1000000 in
theorem iDrop_yes (t a : ByteArray) (ps : List (Nat × Nat)) (x : Nat) (w : World) (ht : t.size ≤ 1048576) (hN : MaxW w) (hl : loopL t.data.toList = some ps) (hx : letK a ps.length = some x) :
    Calls Tryd.prog 5 #[.string t, .string a] w fun e w' => e = .returned (.tuple #[.string (txL (anewL (dropL t.data.toList (lt8 x)))), .bool true]) ∧ Below w.heap.size w w' := by
  have HL := Lib.hid hl
  have HX := Lib.hid hx
  obtain ⟨x1, x2, x3⟩ := letK_some hx
  have hc : a.data.toList.getD 0 0 = lt8 x := lt8_of _ x x2
  have h16 : t.size ≤ 16 := by rw [← tx_len]; exact ((goodL_iff _).1 (loopL_some hl).2).1
  have HRA := Lib.hid (fun W (hb : Below w.heap.size w W) => show Calls Tryd.prog 12 #[.string t, .string a, .string ⟨#[]⟩] W fun e w' => e = .returned (.string (txL (dropL t.data.toList (lt8 x)))) ∧ Below W.heap.size W w' by
    have := replaceAll_any t a W ht x1 (hN.later hb)
    rw [hc] at this
    exact this)
  have HAN := Lib.hid (fun W => show Calls Tryd.prog 11 #[.string (txL (dropL t.data.toList (lt8 x)))] W fun e w' => e = .returned (.string (txL (anewL (dropL t.data.toList (lt8 x))))) ∧ Below W.heap.size W w' from
    namedAnew_any (txL (dropL t.data.toList (lt8 x))) W (by rw [txL_size]; have := dropL_length t.data.toList (lt8 x); rw [tx_len] at this; omega))
  clear hl hx x1 x2 hc
  go_enter Tryd.func5, Tryd.ntmps5
  go_wp2_with (first | (go_at_call 9; (with_reducible refine (loopOf_yes t ps _ ht HL.out).mono ?_); rintro e w1 ⟨a0, cap, rfl, hP, hb1⟩; (have hz1 := hb1.size); clear hP) | (go_at_call 10; with_reducible refine (indexOf_some _ _ _ x a _ HX.out).mono ?_; rintro e w2 ⟨rfl, rfl⟩) | (go_at_call 12; (refine (HRA.out _ (Below.trans hb1 (by go_grown))).mono ?_); rintro e w3 ⟨rfl, hb3⟩; (have hz3 := hb3.size); (rw [World.size_alloc] at hz3)) | (go_at_call 11; (refine (HAN.out _).mono ?_); rintro e w4 ⟨rfl, hb4⟩))
  go_ret2
  exact ⟨rfl, Below.trans (Below.trans (Below.trans hb1 (by go_grown)) (hb3.mono (by simp; omega))) (hb4.mono (by omega))⟩

set_option maxHeartbeats 400000 in
theorem iDrop_bad (t a : ByteArray) (w : World) (ht : t.size ≤ 1048576) (hl : loopL t.data.toList = none) :
    Calls Tryd.prog 5 #[.string t, .string a] w fun e w' => e = .returned (.tuple #[.string ⟨#[]⟩, .bool false]) ∧ Below w.heap.size w w' := by
  have HL := Lib.hid hl
  have hn := dropIdx_nil a
  obtain ⟨o1, z1, h1⟩ := hn
  have H1 := Lib.hid h1
  clear hl h1
  go_enter Tryd.func5, Tryd.ntmps5
  go_wp2_with (first | (go_at_call 9; (with_reducible refine (loopOf_no t _ ht HL.out).mono ?_); rintro e w1 ⟨rfl, hb1⟩; (have hz1 := hb1.size)) | (go_at_call 10; with_reducible refine (H1.out _).mono ?_; rintro e w2 ⟨rfl, rfl⟩))
  go_ret2
  exact ⟨rfl, Below.trans hb1 (by go_grown)⟩

set_option maxHeartbeats 400000 in
theorem iDrop_no1 (t a : ByteArray) (ps : List (Nat × Nat)) (w : World) (ht : t.size ≤ 1048576) (hl : loopL t.data.toList = some ps) (hx : letK a ps.length = none) :
    Calls Tryd.prog 5 #[.string t, .string a] w fun e w' => e = .returned (.tuple #[.string ⟨#[]⟩, .bool false]) ∧ Below w.heap.size w w' := by
  have HL := Lib.hid hl
  have HX := Lib.hid hx
  clear hl hx
  go_enter Tryd.func5, Tryd.ntmps5
  go_wp2_with (first | (go_at_call 9; (with_reducible refine (loopOf_yes t ps _ ht HL.out).mono ?_); rintro e w1 ⟨a0, cap, rfl, hP, hb1⟩; (have hz1 := hb1.size); clear hP) | (go_at_call 10; with_reducible refine (indexOf_none _ _ _ a _ HX.out).mono ?_; rintro e w2 ⟨z1, rfl, rfl⟩))
  go_ret2
  exact ⟨rfl, Below.trans hb1 (by go_grown)⟩

set_option maxHeartbeats 400000 in
theorem sDrop_bad (t a : ByteArray) (w : World) (ht : t.size ≤ 1048576) (hg : goodL t.data.toList = false) :
    Calls Tryd.prog 4 #[.string t, .string a] w fun e w' => e = .returned (.tuple #[.string ⟨#[]⟩, .bool false]) ∧ Below w.heap.size w w' := by
  have HG := Lib.hid hg
  clear hg
  go_enter Tryd.func4, Tryd.ntmps4
  go_wp2_with (first | (go_at_call 6; (with_reducible refine (loGood_any t _ ht).mono ?_); rintro e w1 ⟨rfl, hb1⟩; rw [HG.out]))
  go_ret2
  exact ⟨rfl, hb1⟩

set_option maxHeartbeats 400000 in
theorem sDrop_no1 (t a : ByteArray) (ps : List (Nat × Nat)) (w : World) (ht : t.size ≤ 1048576) (hg : goodL t.data.toList = true) (hs : t.size = 2 * ps.length) (hfew : ps.length ≤ 8) (hx : letK a ps.length = none) :
    Calls Tryd.prog 4 #[.string t, .string a] w fun e w' => e = .returned (.tuple #[.string ⟨#[]⟩, .bool false]) ∧ Below w.heap.size w w' := by
  have HG := Lib.hid hg
  clear hg
  go_enter Tryd.func4, Tryd.ntmps4
  go_wp2_with (first | (go_at_call 6; (with_reducible refine (loGood_any t _ ht).mono ?_); rintro e w1 ⟨rfl, hb1⟩; rw [HG.out]) | (go_at_call 7; (with_reducible refine (loLetter_none t a _ _ hs hfew hx).mono ?_); rintro e w2 ⟨rfl, rfl⟩))
  go_ret2
  exact ⟨rfl, hb1⟩

set_option maxHeartbeats 2000000 in
set_option maxRecDepth 100000 in
theorem sDrop_yes (t a : ByteArray) (ps : List (Nat × Nat)) (x : Nat) (w : World) (ht : t.size ≤ 1048576) (hg : goodL t.data.toList = true) (hs : t.size = 2 * ps.length) (hfew : ps.length ≤ 8) (hx : letK a ps.length = some x) :
    Calls Tryd.prog 4 #[.string t, .string a] w fun e w' => e = .returned (.tuple #[.string (txL (anewL (dropL t.data.toList (lt8 x)))), .bool true]) ∧ Below w.heap.size w w' := by
  have HG := Lib.hid hg
  have HX := Lib.hid hx
  have HS := Lib.hid hs
  have hlen := tx_len t
  have h16 : t.size ≤ 16 := by omega
  obtain ⟨x1, x2, x3⟩ := letK_some hx
  have hc : a.data.toList.getD 0 0 = lt8 x := lt8_of _ x x2
  have ax : 0 < a.size := by omega
  obtain ⟨c, hcc⟩ : ∃ c, lt8 x = c := ⟨_, rfl⟩
  rw [hcc] at hc ⊢
  obtain ⟨d, hd⟩ : ∃ d, c.toNat = d := ⟨_, rfl⟩
  have HD := Lib.hid hd
  have ha : (a[0]'ax).toNat = d := by rw [tx_get a 0 ax, hc]; exact hd
  have ax2 : (0 : Int) < (a.size : Int) := by omega
  have HT := Lib.hid (fun k (h : k < t.size) => And.intro (tx_get t k h) (tx_one t k h))
  have HST := Lib.hid (fun k (h : k < t.size) => dropTo_succ t.data.toList c k (by rw [hlen]; exact h))
  have HLE := Lib.hid (fun k => show (dropTo t.data.toList c k).length ≤ k by unfold dropTo; have := dropL_length (t.data.toList.take k) c; rw [List.length_take] at this; omega)
  have hE : dropTo t.data.toList c t.size = dropL t.data.toList c := by unfold dropTo; rw [List.take_of_length_le (by omega)]
  have H0 : dropTo t.data.toList c 0 = [] := rfl
  have HAN := Lib.hid (fun W => show Calls Tryd.prog 8 #[.string (txL (dropL t.data.toList c))] W fun e w' => e = .returned (.string (txL (anewL (dropL t.data.toList c)))) ∧ Below W.heap.size W w' from
    loAnew_any (txL (dropL t.data.toList c)) W (by rw [txL_size]; have := dropL_length t.data.toList c; omega))
  have HE := Lib.hid hE
  obtain ⟨n, hn⟩ : ∃ n, t.size = n := ⟨_, rfl⟩
  rw [hn] at HE h16
  have HN := Lib.hid hn
  have hfew2 := hfew
  clear hg hx hs x1 x2 hc hcc hd hlen hE
  go_enter Tryd.func4, Tryd.ntmps4
  go_wp2_with (first | (go_at_call 6; (with_reducible refine (loGood_any t _ ht).mono ?_); rintro e w1 ⟨rfl, hb1⟩; rw [HG.out]) | (go_at_call 7; (with_reducible refine (loLetter_some t a _ x _ HS.out hfew2 HX.out).mono ?_); rintro e w2 ⟨rfl, rfl⟩))
  have HB1 := Lib.hid hb1
  clear hb1
  go_loopw [6, 7] (fun o i wr => ∃ k : Nat, k ≤ n ∧ i = .int .i64 k ∧ o = .string (txL (dropTo t.data.toList c k)) ∧ Below w.heap.size w wr) (fun _ i _ => n - (intOf i).toNat)
  case atStart => exact ⟨0, by omega, rfl, by rw [H0]; rfl, HB1.out⟩
  case round =>
    obtain ⟨k, hk, rfl, rfl, hB⟩ := hrel
    have HB := Lib.hid hB
    clear hB
    by_cases hlt : k < n
    · have hkt : k < t.size := by rw [HN.out]; exact hlt
      obtain ⟨hg, hone⟩ := HT.out k hkt
      have hst := HST.out k hkt
      obtain ⟨y, hy⟩ : ∃ y, t.data.toList.getD k 0 = y := ⟨_, rfl⟩
      rw [hy] at hg hone hst
      obtain ⟨q, hq⟩ : ∃ q, y.toNat = q := ⟨_, rfl⟩
      have htk : (t[k]'hkt).toNat = q := by rw [hg]; exact hq
      have hle := HLE.out k
      obtain ⟨O, hO⟩ : ∃ O, dropTo t.data.toList c k = O := ⟨_, rfl⟩
      rw [hO] at hst hle ⊢
      have k0 : 0 ≤ (k : Int) := by omega
      have k1 : (k : Int) < (n : Int) := by omega
      have k2 : (k : Int) + 1 ≤ (n : Int) := by omega
      have k3 : (k : Int) ≤ (k : Int) + 1 := by omega
      have k4 : 0 ≤ (k : Int) + 1 := by omega
      have k5 : ((k : Int) + 1).toNat = k + 1 := by omega
      have hwk : IntKind.i64.wrap ((k : Int) + 1) = (k : Int) + 1 := by rw [IntKind.wrap_i64]; omega
      by_cases e : y = c
      · have hqd : q = d := by rw [← hq, ← HD.out, e]
        rw [if_pos e] at hst
        have HST2 := Lib.hid hst
        subst hqd
        clear hg hone hst hy hq hle hO e
        go_wp2
        go_quiet (fail)
        go_wp2
        go_roundw
        case rel => exact ⟨k + 1, by omega, by go_num, by rw [HST2.out], bdn HB.out _⟩
        case measure => simp [intOf]; omega
      · have hqd : q ≠ d := fun e2 => e (UInt8.toNat_inj.1 (by rw [hq, HD.out, e2]))
        have hne : ((q : Int) != (d : Int)) = true := bne_iff_ne.2 (by omega)
        rw [if_neg e] at hst
        have hadd := txAdd (txL O) (t.extract k (k + 1)) (by rw [hone, txL_size, txL_size]; simp; omega)
        rw [show txL O ++ t.extract k (k + 1) = txL (O ++ [y]) by rw [hone, txL_append], ← hst] at hadd
        clear hg hone hst hy hq hle hO e hqd
        go_wp2
        go_quiet (fail)
        go_wp2
        go_roundw
        case rel => exact ⟨k + 1, by omega, by go_num, rfl, bdn HB.out _⟩
        case measure => simp [intOf]; omega
    · obtain rfl : k = n := by omega
      rw [HE.out]
      go_wp2_with (first | (go_at_call 8; (with_reducible refine (HAN.out _).mono ?_); rintro e w3 ⟨rfl, hb3⟩))
      go_ret2
      exact ⟨rfl, HB.out.trans (hb3.mono HB.out.size)⟩

set_option maxHeartbeats 1000000 in
theorem core_DropCrossing (t a : ByteArray) (x : ByteArray) (b : Bool) (w : World) (hN : MaxW w) (ht : t.size ≤ 1048576) (ha : a.size ≤ 1048576)
    (hs : ∀ W : World, Calls Tryd.prog 4 #[.string t, .string a] W fun e w' => e = .returned (.tuple #[.string x, .bool b]) ∧ Below W.heap.size W w')
    (hi : ∀ W : World, MaxW W → Calls Tryd.prog 5 #[.string t, .string a] W fun e w' => e = .returned (.tuple #[.string x, .bool b]) ∧ Below W.heap.size W w') :
    Calls Tryd.prog 3 #[.string t, .string a] w fun e w' => e = .returned (.bool true) ∧ Below w.heap.size w w' := by
  have HS := Lib.hid hs
  have HI := Lib.hid hi
  have h0 : ¬ 1048576 < (t.size : Int) := by omega
  have h1 : ¬ 1048576 < (a.size : Int) := by omega
  clear hs hi ht ha
  go_enter Tryd.func3, Tryd.ntmps3
  go_wp2_with (first | (go_at_call 4; (with_reducible refine (HS.out _).mono ?_); rintro e w1 ⟨rfl, hb1⟩) | (go_at_call 5; (with_reducible refine (HI.out _ (hN.later hb1)).mono ?_); rintro e w2 ⟨rfl, hb2⟩))
  go_ret
  exact ⟨rfl, hb1.trans (hb2.mono hb1.size)⟩

set_option maxHeartbeats 400000 in
theorem long0_DropCrossing (t a : ByteArray) (w : World) (ht : 1048576 < (t.size : Int)) : Calls Tryd.prog 3 #[.string t, .string a] w fun e w' => e = .returned (.bool true) ∧ Below w.heap.size w w' := by
  go_enter Tryd.func3, Tryd.ntmps3
  go_wp2
  go_ret
  exact ⟨rfl, Below.refl _ _⟩

set_option maxHeartbeats 400000 in
theorem long1_DropCrossing (t a : ByteArray) (w : World) (h0 : ¬ 1048576 < (t.size : Int)) (ht : 1048576 < (a.size : Int)) : Calls Tryd.prog 3 #[.string t, .string a] w fun e w' => e = .returned (.bool true) ∧ Below w.heap.size w w' := by
  go_enter Tryd.func3, Tryd.ntmps3
  go_wp2
  go_ret
  exact ⟨rfl, Below.refl _ _⟩

theorem walk_DropCrossing (t a : ByteArray) (w : World) (hN : MaxW w) : Calls Tryd.prog 3 #[.string t, .string a] w fun e w' => e = .returned (.bool true) ∧ Below w.heap.size w w' := by
  by_cases h0 : 1048576 < (t.size : Int)
  · exact long0_DropCrossing t a w h0
  by_cases h1 : 1048576 < (a.size : Int)
  · exact long1_DropCrossing t a w h0 h1
  cases hl : loopL t.data.toList with
  | none => exact core_DropCrossing t a _ _ w hN (by omega) (by omega) (fun W => sDrop_bad t a W (by omega) (loopL_none hl)) (fun W _ => iDrop_bad t a W (by omega) hl)
  | some ps =>
    obtain ⟨g1, g2⟩ := loopL_some hl
    cases hx : letK a ps.length with
    | none => exact core_DropCrossing t a _ _ w hN (by omega) (by omega) (fun W => sDrop_no1 t a ps W (by omega) g2 g1.size g1.few hx) (fun W _ => iDrop_no1 t a ps W (by omega) hl hx)
    | some x => exact core_DropCrossing t a _ _ w hN (by omega) (by omega) (fun W => sDrop_yes t a ps x W (by omega) g2 g1.size g1.few hx) (fun W hW => iDrop_yes t a ps x W (by omega) hW hl hx)

end Go.Proofs.YtpcebcgmbngababDoor
