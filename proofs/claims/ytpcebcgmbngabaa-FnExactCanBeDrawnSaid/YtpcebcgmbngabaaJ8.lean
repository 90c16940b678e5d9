/- Loops: interlaced letters, by both sides. -/
import Derived.Test.YtpcebcgmbngabaaJ7
import Derived.Test.YtpcebcgmbngabaaJ6
namespace Go.Proofs.Ytpcebcgmbngabaa
open Go.RowKit
set_option linter.unusedVariables false

theorem letters_form {w : World} {B T n cap : Nat} {a0 : Option Addr} {ps : List (Nat × Nat)} (h : PairsIn 64 w B T (.slice a0 n cap) (pI ps)) (hn : 0 < ps.length) : ∃ g, a0 = some ⟨g, 0, none⟩ ∧ n = ps.length := by
  obtain ⟨a1, c1, g, e, ha, _⟩ := h.1.view
  rw [pI_length] at e ha
  cases e
  exact ⟨g, ha hn, rfl⟩

theorem letters_len {w : World} {B T n cap : Nat} {a0 : Option Addr} {ps : List (Nat × Nat)} (h : PairsIn 64 w B T (.slice a0 n cap) (pI ps)) : n = ps.length := by
  obtain ⟨a1, c1, g, e, ha, _⟩ := h.1.view
  rw [pI_length] at e
  cases e
  rfl

theorem letters_cells {w : World} {B T n cap g : Nat} {ps : List (Nat × Nat)} (h : PairsIn 64 w B T (.slice (some ⟨g, 0, none⟩) n cap) (pI ps)) (k : Nat) (hk : k < ps.length) :
    w.cell? ⟨g, k * 2, none⟩ = some (.int .i64 (ps.getD k (0, 0)).1) ∧ w.cell? ⟨g, k * 2 + 1, none⟩ = some (.int .i64 (ps.getD k (0, 0)).2) := by
  have c0 := h.1.cell0 k (by rw [pI_length]; exact hk)
  have c1 := h.1.cell1 k (by rw [pI_length]; exact hk)
  rw [pI_get] at c0 c1
  exact ⟨c0, c1⟩

set_option maxHeartbeats 2000000 in
theorem areInterlaced_any (a0 : Option Addr) (n cap : Nat) (ps : List (Nat × Nat)) (B T x y : Nat) (w : World) (h : PairsIn 64 w B T (.slice a0 n cap) (pI ps)) (hx : x < ps.length) (hy : y < ps.length) :
    Calls Try.prog 46 #[.slice a0 n cap, .int .i64 x, .int .i64 y] w fun e w' => e = .returned (.bool (lacedP ps x y)) ∧ Below w.heap.size w w' := by
  obtain ⟨g, rfl, rfl⟩ := letters_form h (by omega)
  obtain ⟨e1, e2⟩ := letters_cells h x hx
  obtain ⟨e3, e4⟩ := letters_cells h y hy
  have hval : lacedP ps x y = crossB (ps.getD x (0, 0)).1 (ps.getD x (0, 0)).2 (ps.getD y (0, 0)).1 (ps.getD y (0, 0)).2 := rfl
  obtain ⟨a, ha⟩ : ∃ a : Int, ((ps.getD x (0, 0)).1 : Int) = a := ⟨_, rfl⟩
  obtain ⟨b, hb⟩ : ∃ b : Int, ((ps.getD x (0, 0)).2 : Int) = b := ⟨_, rfl⟩
  obtain ⟨c, hc⟩ : ∃ c : Int, ((ps.getD y (0, 0)).1 : Int) = c := ⟨_, rfl⟩
  obtain ⟨d, hd⟩ : ∃ d : Int, ((ps.getD y (0, 0)).2 : Int) = d := ⟨_, rfl⟩
  rw [ha, hb, hc, hd] at hval
  rw [ha] at e1
  rw [hb] at e2
  rw [hc] at e3
  rw [hd] at e4
  rw [hval]
  have x0 : 0 ≤ (x : Int) := by omega
  have x1 : (x : Int) < (ps.length : Int) := by omega
  have y0 : 0 ≤ (y : Int) := by omega
  have y1 : (y : Int) < (ps.length : Int) := by omega
  clear h ha hb hc hd hval
  go_enter Try.func46, Try.ntmps46
  go_wp2
  go_region_held3 (fun w' => w'.cell? ⟨g, x * 2, none⟩ = some (.int .i64 a) ∧ w'.cell? ⟨g, x * 2 + 1, none⟩ = some (.int .i64 b) ∧ w'.cell? ⟨g, y * 2, none⟩ = some (.int .i64 c) ∧ w'.cell? ⟨g, y * 2 + 1, none⟩ = some (.int .i64 d)) (go_keep)
    (first | (go_at_call 69; (with_reducible refine (areInTurn_any a b c d _).mono ?_); rintro e w1 ⟨rfl, hb⟩; (have c0 : w1.cell? ⟨g, x * 2, none⟩ = some (.int .i64 a) := cellB hb (by first | assumption | go_simp)); (have c1 : w1.cell? ⟨g, x * 2 + 1, none⟩ = some (.int .i64 b) := cellB hb (by first | assumption | go_simp)); (have c2 : w1.cell? ⟨g, y * 2, none⟩ = some (.int .i64 c) := cellB hb (by first | assumption | go_simp)); (have c3 : w1.cell? ⟨g, y * 2 + 1, none⟩ = some (.int .i64 d) := cellB hb (by first | assumption | go_simp)); (have HBW : Hid (Below w.heap.size w w1) := Lib.hid (Below.trans (by go_grown) (hb.mono (by first | omega | (simp; done) | (simp; omega))))); clear hb))
  go_wp2
  go_ret
  exact ⟨rfl, by first | exact HBW.out | exact bdn HBW.out _⟩

set_option maxHeartbeats 400000 in
theorem loLetter_some (t a : ByteArray) (n k : Nat) (w : World) (ht : t.size = 2 * n) (hn : n ≤ 8) (h : letK a n = some k) :
    Calls Try.prog 43 #[.string t, .string a] w fun e w' => e = .returned (.bool true) ∧ w = w' := by
  obtain ⟨h1, h2, h3⟩ := letK_some h
  obtain ⟨q, hq⟩ : ∃ q, (a.data.toList.getD 0 0).toNat = q := ⟨_, rfl⟩
  rw [hq] at h2
  have h0 : 0 < a.size := by omega
  have hq2 : (a[0]'h0).toNat = q := by rw [tx_get a 0 h0]; exact hq
  have ha : ((a.size : Int) == 1) = true := by rw [h1]; rfl
  have hw : IntKind.i64.wrap ((q : Int) - 97) = (q : Int) - 97 := by rw [IntKind.wrap_i64]; omega
  obtain ⟨m, hm⟩ : ∃ m, t.size = m := ⟨_, rfl⟩
  have hd : Int.tdiv (m : Int) 2 = (n : Int) := by rw [Int.tdiv_eq_ediv_of_nonneg (by omega)]; omega
  have hw2 : IntKind.i64.wrap (n : Int) = (n : Int) := by rw [IntKind.wrap_i64]; omega
  have hw3 : IntKind.i64.wrap ((n : Int) - 1) = (n : Int) - 1 := by rw [IntKind.wrap_i64]; omega
  have h02 : (0 : Int) < (a.size : Int) := by omega
  clear h1 hq ht h
  go_enter Try.func43, Try.ntmps43
  go_wp2_with (first | (go_at_call 55; (with_reducible refine (l1In_yes _ _ _ _ (by omega)).mono ?_); rintro e w1 ⟨rfl, rfl⟩))
  go_ret
  exact ⟨rfl, rfl⟩

set_option maxHeartbeats 400000 in
theorem loLetter_none (t a : ByteArray) (n : Nat) (w : World) (ht : t.size = 2 * n) (hn : n ≤ 8) (h : letK a n = none) :
    Calls Try.prog 43 #[.string t, .string a] w fun e w' => e = .returned (.bool false) ∧ w = w' := by
  rcases letK_none h with h1 | ⟨h1, h2⟩
  · have ha : ((a.size : Int) == 1) = false := beq_eq_false_iff_ne.2 (by omega)
    clear h h1 ht
    go_enter Try.func43, Try.ntmps43
    go_wp2
    go_ret
    exact ⟨rfl, rfl⟩
  · obtain ⟨q, hq⟩ : ∃ q, (a.data.toList.getD 0 0).toNat = q := ⟨_, rfl⟩
    rw [hq] at h2
    have q256 : q < 256 := by rw [← hq]; exact UInt8.toNat_lt _
    have h0 : 0 < a.size := by omega
    have hq2 : (a[0]'h0).toNat = q := by rw [tx_get a 0 h0]; exact hq
    have ha : ((a.size : Int) == 1) = true := by rw [h1]; rfl
    have hw : IntKind.i64.wrap ((q : Int) - 97) = (q : Int) - 97 := by rw [IntKind.wrap_i64]; omega
    obtain ⟨m, hm⟩ : ∃ m, t.size = m := ⟨_, rfl⟩
    have hd : Int.tdiv (m : Int) 2 = (n : Int) := by rw [Int.tdiv_eq_ediv_of_nonneg (by omega)]; omega
    have hw2 : IntKind.i64.wrap (n : Int) = (n : Int) := by rw [IntKind.wrap_i64]; omega
    have hw3 : IntKind.i64.wrap ((n : Int) - 1) = (n : Int) - 1 := by rw [IntKind.wrap_i64]; omega
    have h02 : (0 : Int) < (a.size : Int) := by omega
    have hx : ¬ (0 ≤ (q : Int) - 97 ∧ (q : Int) - 97 ≤ (n : Int) - 1) := by omega
    clear h1 hq ht h h2
    go_enter Try.func43, Try.ntmps43
    go_wp2_with (first | (go_at_call 55; (with_reducible refine (l1In_no _ _ _ _ hx).mono ?_); rintro e w1 ⟨rfl, rfl⟩))
    go_ret
    exact ⟨rfl, rfl⟩

theorem LoopP.size {t : ByteArray} {ps : List (Nat × Nat)} (h : LoopP t.data.toList ps) : t.size = 2 * ps.length := by rw [← tx_len]; exact h.len

set_option maxHeartbeats 1000000 in
theorem core_AreInterlaced (t : ByteArray) (a : ByteArray) (b : ByteArray) (x : Bool) (y : Bool) (w : World) (ht0 : t.size ≤ 1048576) (ht1 : a.size ≤ 1048576) (ht2 : b.size ≤ 1048576)
    (hs : ∀ W : World, Calls Try.prog 19 #[.string t, .string a, .string b] W fun e w' => e = .returned (.tuple #[.bool x, .bool y]) ∧ Below W.heap.size W w')
    (hi : ∀ W : World, Calls Try.prog 20 #[.string t, .string a, .string b] W fun e w' => e = .returned (.tuple #[.bool x, .bool y]) ∧ Below W.heap.size W w') :
    Calls Try.prog 5 #[.string t, .string a, .string b] w fun e w' => e = .returned (.bool true) ∧ Below w.heap.size w w' := by
  have HS := Lib.hid hs
  have HI := Lib.hid hi
  have h0 : ¬ 1048576 < (t.size : Int) := by omega
  have h1 : ¬ 1048576 < (a.size : Int) := by omega
  have h2 : ¬ 1048576 < (b.size : Int) := by omega
  clear hs hi ht0 ht1 ht2
  go_enter Try.func5, Try.ntmps5
  go_wp2_with (first | (go_at_call 19; (with_reducible refine (HS.out _).mono ?_); rintro e w1 ⟨rfl, hb1⟩) | (go_at_call 20; (with_reducible refine (HI.out _).mono ?_); rintro e w2 ⟨rfl, hb2⟩))
  go_ret
  exact ⟨rfl, hb1.trans (hb2.mono hb1.size)⟩

set_option maxHeartbeats 400000 in
theorem long0_AreInterlaced (t : ByteArray) (a : ByteArray) (b : ByteArray) (w : World)  (ht : 1048576 < (t.size : Int)) :
    Calls Try.prog 5 #[.string t, .string a, .string b] w fun e w' => e = .returned (.bool true) ∧ Below w.heap.size w w' := by
  go_enter Try.func5, Try.ntmps5
  go_wp2
  go_ret
  exact ⟨rfl, Below.refl _ _⟩

set_option maxHeartbeats 400000 in
theorem long1_AreInterlaced (t : ByteArray) (a : ByteArray) (b : ByteArray) (w : World) (h0 : ¬ 1048576 < (t.size : Int)) (ht : 1048576 < (a.size : Int)) :
    Calls Try.prog 5 #[.string t, .string a, .string b] w fun e w' => e = .returned (.bool true) ∧ Below w.heap.size w w' := by
  go_enter Try.func5, Try.ntmps5
  go_wp2
  go_ret
  exact ⟨rfl, Below.refl _ _⟩

set_option maxHeartbeats 400000 in
theorem long2_AreInterlaced (t : ByteArray) (a : ByteArray) (b : ByteArray) (w : World) (h0 : ¬ 1048576 < (t.size : Int)) (h1 : ¬ 1048576 < (a.size : Int)) (ht : 1048576 < (b.size : Int)) :
    Calls Try.prog 5 #[.string t, .string a, .string b] w fun e w' => e = .returned (.bool true) ∧ Below w.heap.size w w' := by
  go_enter Try.func5, Try.ntmps5
  go_wp2
  go_ret
  exact ⟨rfl, Below.refl _ _⟩

set_option maxHeartbeats 1000000 in
set_option maxRecDepth 100000 in
theorem sAreInterlaced_yes (t a b : ByteArray) (ps : List (Nat × Nat)) (x y : Nat) (w : World) (ht : t.size ≤ 1048576) (h : LoopP t.data.toList ps) (hg : goodL t.data.toList = true) (hx : letK a ps.length = some x) (hy : letK b ps.length = some y) :
    Calls Try.prog 19 #[.string t, .string a, .string b] w fun e w' => e = .returned (.tuple #[.bool (lacedP ps x y), .bool true]) ∧ Below w.heap.size w w' := by
  have HG := Lib.hid hg
  have HH := Lib.hid h
  have HX := Lib.hid hx
  have HY := Lib.hid hy
  have HS := Lib.hid h.size
  obtain ⟨x1, x2, x3⟩ := letK_some hx
  obtain ⟨y1, y2, y3⟩ := letK_some hy
  obtain ⟨dx, hdx⟩ : ∃ d, (a.data.toList.getD 0 0).toNat = d := ⟨_, rfl⟩
  obtain ⟨dy, hdy⟩ : ∃ d, (b.data.toList.getD 0 0).toNat = d := ⟨_, rfl⟩
  have ax : 0 < a.size := by omega
  have bx : 0 < b.size := by omega
  have ha : (a[0]'ax).toNat = dx := by rw [tx_get a 0 ax]; exact hdx
  have hb : (b[0]'bx).toNat = dy := by rw [tx_get b 0 bx]; exact hdy
  rw [hdx] at x2
  rw [hdy] at y2
  have ax2 : (0 : Int) < (a.size : Int) := by omega
  have bx2 : (0 : Int) < (b.size : Int) := by omega
  have HLC := Lib.hid (fun W => loLaced_any t ps x y dx dy W h x3 y3 x2 y2)
  have hfew := h.few
  clear hg h hx hy hdx hdy x1 y1 x2 y2
  go_enter Try.func19, Try.ntmps19
  go_wp2_with (first | (go_at_call 39; (with_reducible refine (loGood_any t _ ht).mono ?_); rintro e w1 ⟨rfl, hb1⟩; rw [HG.out]) | (go_at_call 43; (first | with_reducible refine (loLetter_some t a _ x _ HS.out hfew HX.out).mono ?_ | with_reducible refine (loLetter_some t b _ y _ HS.out hfew HY.out).mono ?_); rintro e w2 ⟨rfl, rfl⟩))
  go_quiet ((go_at_call 44; (with_reducible exact quietP (HLC.out _))))
  go_wp2
  go_ret2
  exact ⟨rfl, by first | exact hb1 | exact bdn hb1 _⟩

set_option maxHeartbeats 1000000 in
theorem sAreInterlaced_bad (t a b : ByteArray) (ps : List (Nat × Nat)) (x : Nat) (w : World) (ht : t.size ≤ 1048576) (hg : goodL t.data.toList = false) :
    Calls Try.prog 19 #[.string t, .string a, .string b] w fun e w' => e = .returned (.tuple #[.bool false, .bool false]) ∧ Below w.heap.size w w' := by
  have HG := Lib.hid hg
  clear hg
  go_enter Try.func19, Try.ntmps19
  go_wp2_with (first | (go_at_call 39; (with_reducible refine (loGood_any t _ ht).mono ?_); rintro e w1 ⟨rfl, hb1⟩; rw [HG.out]))
  go_ret2
  exact ⟨rfl, hb1⟩

set_option maxHeartbeats 1000000 in
theorem sAreInterlaced_no1 (t a b : ByteArray) (ps : List (Nat × Nat)) (x : Nat) (w : World) (ht : t.size ≤ 1048576) (hg : goodL t.data.toList = true) (hs : t.size = 2 * ps.length) (hfew : ps.length ≤ 8) (hx : letK a ps.length = none) :
    Calls Try.prog 19 #[.string t, .string a, .string b] w fun e w' => e = .returned (.tuple #[.bool false, .bool false]) ∧ Below w.heap.size w w' := by
  have HG := Lib.hid hg
  clear hg
  go_enter Try.func19, Try.ntmps19
  go_wp2_with (first | (go_at_call 39; (with_reducible refine (loGood_any t _ ht).mono ?_); rintro e w1 ⟨rfl, hb1⟩; rw [HG.out]) | (go_at_call 43; (with_reducible refine (loLetter_none t a _ _ hs hfew hx).mono ?_); rintro e w2 ⟨rfl, rfl⟩))
  go_ret2
  exact ⟨rfl, hb1⟩

set_option maxHeartbeats 1000000 in
theorem sAreInterlaced_no2 (t a b : ByteArray) (ps : List (Nat × Nat)) (x : Nat) (w : World) (ht : t.size ≤ 1048576) (hg : goodL t.data.toList = true) (hs : t.size = 2 * ps.length) (hfew : ps.length ≤ 8) (hx : letK a ps.length = some x) (hy : letK b ps.length = none) :
    Calls Try.prog 19 #[.string t, .string a, .string b] w fun e w' => e = .returned (.tuple #[.bool false, .bool false]) ∧ Below w.heap.size w w' := by
  have HG := Lib.hid hg
  clear hg
  go_enter Try.func19, Try.ntmps19
  go_wp2_with (first | (go_at_call 39; (with_reducible refine (loGood_any t _ ht).mono ?_); rintro e w1 ⟨rfl, hb1⟩; rw [HG.out]) | (go_at_call 43; (with_reducible refine (loLetter_some t a _ x _ hs hfew hx).mono ?_); rintro e w2 ⟨rfl, rfl⟩) | (go_at_call 43; (with_reducible refine (loLetter_none t b _ _ hs hfew hy).mono ?_); rintro e w2 ⟨rfl, rfl⟩))
  go_ret2
  exact ⟨rfl, hb1⟩

set_option maxHeartbeats 1000000 in
theorem iAreInterlaced_yes (t a b : ByteArray) (ps : List (Nat × Nat)) (x y : Nat) (w : World) (ht : t.size ≤ 1048576) (hl : loopL t.data.toList = some ps) (hx : letK a ps.length = some x) (hy : letK b ps.length = some y) :
    Calls Try.prog 20 #[.string t, .string a, .string b] w fun e w' => e = .returned (.tuple #[.bool (lacedP ps x y), .bool true]) ∧ Below w.heap.size w w' := by
  have HL := Lib.hid hl
  have HX := Lib.hid hx
  have HY := Lib.hid hy
  obtain ⟨x1, x2, x3⟩ := letK_some hx
  obtain ⟨y1, y2, y3⟩ := letK_some hy
  clear hl hx hy x1 x2 y1 y2
  go_enter Try.func20, Try.ntmps20
  go_wp2_with (first | (go_at_call 40; (with_reducible refine (loopOf_yes t ps _ ht HL.out).mono ?_); rintro e w1 ⟨a0, cap, rfl, hP, hb1⟩; (have hz1 := hb1.size); (have HP := Lib.hid hP); clear hP) | (go_at_call 45; first | (with_reducible refine (indexOf_some _ _ _ x a _ HX.out).mono ?_; rintro e w2 ⟨rfl, rfl⟩) | (with_reducible refine (indexOf_some _ _ _ y b _ HY.out).mono ?_; rintro e w2 ⟨rfl, rfl⟩)) | (go_at_call 46; (refine (areInterlaced_any _ _ _ ps _ _ x y _ (HP.out.keep (belowSame (by go_grown) (Nat.le_refl _))) x3 y3).mono ?_); rintro e w3 ⟨rfl, hb3⟩))
  go_ret2
  exact ⟨rfl, Below.trans (Below.trans hb1 (by go_grown)) (hb3.mono (by simp; omega))⟩

set_option maxHeartbeats 400000 in
theorem iAreInterlaced_bad (t a b : ByteArray) (w : World) (ht : t.size ≤ 1048576) (hl : loopL t.data.toList = none) :
    Calls Try.prog 20 #[.string t, .string a, .string b] w fun e w' => e = .returned (.tuple #[.bool false, .bool false]) ∧ Below w.heap.size w w' := by
  have HL := Lib.hid hl
  clear hl
  have hn : ∀ c : ByteArray, ∃ o : Bool, ∃ z : Int, ∀ W, Calls Try.prog 45 #[.slice none 0 0, .string c] W fun e w' => e = .returned (.tuple #[.int .i64 z, .bool o]) ∧ W = w' := by
    intro c
    by_cases h1 : c.size = 1
    · by_cases h2 : (c.data.toList.getD 0 0).toNat < 97
      · exact ⟨false, ((c.data.toList.getD 0 0).toNat : Int) - 97, fun W => (indexOf_less none 0 0 _ c W h1 rfl h2).mono fun e w' ⟨z, he, hz, hw⟩ => ⟨by rw [he, hz], hw⟩⟩
      · exact ⟨false, ((c.data.toList.getD 0 0).toNat : Int) - 97, fun W => (indexOf_more none 0 0 _ c W h1 rfl (by omega) (by omega)).mono fun e w' ⟨z, he, hz, hw⟩ => ⟨by rw [he, hz], hw⟩⟩
    · exact ⟨false, 0, fun W => indexOf_long none 0 0 c W h1⟩
  obtain ⟨o1, z1, h1⟩ := hn a
  obtain ⟨o2, z2, h2⟩ := hn b
  have H1 := Lib.hid h1
  have H2 := Lib.hid h2
  clear hn h1 h2
  go_enter Try.func20, Try.ntmps20
  go_wp2_with (first | (go_at_call 40; (with_reducible refine (loopOf_no t _ ht HL.out).mono ?_); rintro e w1 ⟨rfl, hb1⟩; (have hz1 := hb1.size)) | (go_at_call 45; first | (with_reducible refine (H1.out _).mono ?_; rintro e w2 ⟨rfl, rfl⟩) | (with_reducible refine (H2.out _).mono ?_; rintro e w2 ⟨rfl, rfl⟩)))
  go_ret2
  exact ⟨rfl, Below.trans hb1 (by go_grown)⟩

set_option maxHeartbeats 400000 in
theorem iAreInterlaced_no1 (t a b : ByteArray) (ps : List (Nat × Nat)) (x : Nat) (w : World) (ht : t.size ≤ 1048576) (hl : loopL t.data.toList = some ps) (hx : letK a ps.length = none) :
    Calls Try.prog 20 #[.string t, .string a, .string b] w fun e w' => e = .returned (.tuple #[.bool false, .bool false]) ∧ Below w.heap.size w w' := by
  have HL := Lib.hid hl
  have HX := Lib.hid hx
  clear hl hx
  have hn : ∃ o : Bool, ∃ z : Int, ∀ (W : World) (a0 : Option Addr) (cap : Nat), Calls Try.prog 45 #[.slice a0 ps.length cap, .string b] W fun e w' => e = .returned (.tuple #[.int .i64 z, .bool o]) ∧ W = w' := by
    by_cases h1 : b.size = 1
    · by_cases h2 : (b.data.toList.getD 0 0).toNat < 97
      · exact ⟨false, ((b.data.toList.getD 0 0).toNat : Int) - 97, fun W a0 cap => (indexOf_less a0 _ cap _ b W h1 rfl h2).mono fun e w' ⟨z, he, hz, hw⟩ => ⟨by rw [he, hz], hw⟩⟩
      · by_cases h3 : (b.data.toList.getD 0 0).toNat < 97 + ps.length
        · exact ⟨true, ((b.data.toList.getD 0 0).toNat : Int) - 97, fun W a0 cap => (indexOf_yes a0 _ cap _ b W h1 rfl (by omega) h3).mono fun e w' ⟨z, he, hz, hw⟩ => ⟨by rw [he, hz], hw⟩⟩
        · exact ⟨false, ((b.data.toList.getD 0 0).toNat : Int) - 97, fun W a0 cap => (indexOf_more a0 _ cap _ b W h1 rfl (by omega) (by omega)).mono fun e w' ⟨z, he, hz, hw⟩ => ⟨by rw [he, hz], hw⟩⟩
    · exact ⟨false, 0, fun W a0 cap => indexOf_long a0 _ cap b W h1⟩
  obtain ⟨o2, z2, h2⟩ := hn
  have H2 := Lib.hid (fun (p : Option Addr × Nat) W => h2 W p.1 p.2)
  clear h2
  go_enter Try.func20, Try.ntmps20
  go_wp2_with (first | (go_at_call 40; (with_reducible refine (loopOf_yes t ps _ ht HL.out).mono ?_); rintro e w1 ⟨a0, cap, rfl, hP, hb1⟩; (have hz1 := hb1.size); (have HP := Lib.hid hP); clear hP) | (go_at_call 45; first | (with_reducible refine (indexOf_none _ _ _ a _ HX.out).mono ?_; rintro e w2 ⟨z1, rfl, rfl⟩) | (with_reducible refine (H2.out (_, _) _).mono ?_; rintro e w2 ⟨rfl, rfl⟩)))
  go_ret2
  exact ⟨rfl, Below.trans hb1 (by go_grown)⟩

set_option maxHeartbeats 400000 in
theorem iAreInterlaced_no2 (t a b : ByteArray) (ps : List (Nat × Nat)) (x : Nat) (w : World) (ht : t.size ≤ 1048576) (hl : loopL t.data.toList = some ps) (hx : letK a ps.length = some x) (hy : letK b ps.length = none) :
    Calls Try.prog 20 #[.string t, .string a, .string b] w fun e w' => e = .returned (.tuple #[.bool false, .bool false]) ∧ Below w.heap.size w w' := by
  have HL := Lib.hid hl
  have HX := Lib.hid hx
  clear hl hx
  have HY := Lib.hid hy
  clear hy
  go_enter Try.func20, Try.ntmps20
  go_wp2_with (first | (go_at_call 40; (with_reducible refine (loopOf_yes t ps _ ht HL.out).mono ?_); rintro e w1 ⟨a0, cap, rfl, hP, hb1⟩; (have hz1 := hb1.size); (have HP := Lib.hid hP); clear hP) | (go_at_call 45; first | (with_reducible refine (indexOf_some _ _ _ x a _ HX.out).mono ?_; rintro e w2 ⟨rfl, rfl⟩) | (with_reducible refine (indexOf_none _ _ _ b _ HY.out).mono ?_; rintro e w2 ⟨z2, rfl, rfl⟩)))
  go_ret2
  exact ⟨rfl, Below.trans hb1 (by go_grown)⟩

end Go.Proofs.Ytpcebcgmbngabaa
