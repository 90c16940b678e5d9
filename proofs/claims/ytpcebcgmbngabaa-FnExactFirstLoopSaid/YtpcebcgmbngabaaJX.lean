/- Loops told from a sign on, and told back: both sides, and the laws of TurnLoop and BackLoop. -/
import Derived.Test.YtpcebcgmbngabaaJV
import Derived.Test.YtpcebcgmbngabaaSv
import Derived.Test.YtpcebcgmbngabaaJB
namespace Go.Proofs.Ytpcebcgmbngabaa
open Go.RowKit
set_option linter.unusedVariables false

theorem bV_one : OneCell bV := fun x => rfl

theorem ByW.holds {w : World} {g n : Nat} {L : List UInt8} (h : ByW w g n L) : Sort.Holds bV w g 0 L.toArray := by
  intro j hj
  have hj' : j < L.length := by simpa using hj
  rw [Nat.zero_add]
  have hl := h.2.1
  refine ⟨?_, (h.2.2.2 j (by omega)).2⟩
  rw [h.2.2.1 j hj']
  simp [bV, List.getD, hj']

theorem reverse_any (g cap n : Nat) (L : List UInt8) (w : World) (h : ByW w g cap L) (hn : n = L.length) (hc : cap ≤ maxLen) :
    Calls Try.prog 77 #[.slice (some ⟨g, 0, none⟩) n cap] w fun e w' => e = .returned (.tuple #[]) ∧ ByW w' g cap L.reverse ∧ w.grownBy w' (some g) := by
  subst hn
  unfold maxLen at hc
  have hl := h.2.1
  have hH := h.holds
  refine (AnyE.slices_Reverse Try.revB bV bV_one g 0 cap L w hH (by omega)).mono ?_
  rintro e w' ⟨rfl, q, rfl⟩
  have hh : Sort.Holds bV (Sort.putRow bV (Sort.ahead w q) g 0 L.reverse.toArray) g 0 L.reverse.toArray := Sort.holds_putRow bV (Sort.ahead w q) g 0 L.toArray L.reverse.toArray hH (by simp)
  refine ⟨rfl, ⟨by simp; exact h.1, by simp; exact hl, fun i hi => ?_, fun i hi => ?_⟩, ?_⟩
  · have hi' : i < L.reverse.length := hi
    have := (hh i (by simpa using hi)).1
    rw [Nat.zero_add] at this
    rw [this]
    simp only [bV]
    congr 2
    rw [getElem!_pos L.reverse.toArray i (by simpa using hi)]
    simp [List.getD, List.getElem?_eq_getElem hi']
  · rw [Sort.frozen?_putRow]
    refine ⟨?_, (h.2.2.2 i hi).2⟩
    by_cases e : i < L.length
    · have := (hh i (by simpa using e)).1
      rw [Nat.zero_add] at this
      rw [this]; rfl
    · rw [Sort.cell?_putRow_other bV _ g 0 _ ⟨g, i, none⟩ (.inr (.inr (by simp; omega)))]
      exact (h.2.2.2 i hi).1
  · refine ⟨rfl, rfl, rfl, by simp, fun k hk hne => ?_⟩
    have : g ≠ k := fun e => hne (by rw [e])
    simp [Sort.putRow, Sort.mapBlock, Sort.ahead, Array.getElem?_modify, this]

def backL (L : List UInt8) : List UInt8 := anewL L.reverse

set_option maxHeartbeats 1000000 in
set_option maxRecDepth 100000 in
theorem back_any (t : ByteArray) (a0 : Option Addr) (n cap : Nat) (w : World) (ht : t.size ≤ 16) :
    Calls Try.prog 62 #[.agg #[.slice a0 n cap, .string t]] w fun e w' => e = .returned (.string (txL (backL t.data.toList))) ∧ Below w.heap.size w w' := by
  obtain ⟨capF, WF, hcv0, hWF⟩ := bytes_made t (by omega)
  have hcv := hcv0 (w.alloc (.cells #[.slice a0 n cap, .string t] 39))
  obtain ⟨hS0, hB0, hz0, hc1, hc2⟩ := hWF (w.alloc (.cells #[.slice a0 n cap, .string t] 39))
  obtain ⟨W1, hW1⟩ : ∃ W1, WF (w.alloc (.cells #[.slice a0 n cap, .string t] 39)) = W1 := ⟨_, rfl⟩
  obtain ⟨c, hcap⟩ : ∃ c, capF (w.alloc (.cells #[.slice a0 n cap, .string t] 39)) = c := ⟨_, rfl⟩
  rw [hW1, hcap] at hcv
  rw [hW1] at hS0 hB0 hz0
  rw [hcap] at hS0 hc1 hc2
  rw [World.size_alloc] at hS0 hB0 hz0 hcv
  have hlen := tx_len t
  have HLEN := Lib.hid hlen
  have HS0 := Lib.hid hS0
  have HB0 := Lib.hid hB0
  have HZ0 := Lib.hid hz0
  have HC2 := Lib.hid hc2
  clear hcv0 hWF hW1 hcap hS0 hB0 hz0 hc1 hc2 hlen
  go_enter Try.func62, Try.ntmps62
  go_wp2_with (first
    | (go_at_call 77; go_loud ((with_reducible refine (reverse_any (w.heap.size + 1) c t.size t.data.toList _ HS0.out HLEN.out.symm HC2.out).mono ?_); rintro e w2 ⟨rfl, hS2, hg2⟩; (have hback := bytes_back hS2 t.size c (by rw [List.length_reverse]; exact HLEN.out.symm)); (have HB2 := Lib.hid (HB0.out.grown hg2 (by have := HZ0.out; omega) (fun k hk => by cases hk; exact Nat.le_refl _))); (have hz2 := hg2.size); clear hS2 hg2))
    | (go_at_call 58; (with_reducible refine (namedAnew_any (txL t.data.toList.reverse) _ (by rw [txL_size, List.length_reverse, HLEN.out]; exact ht)).mono ?_); rintro e w3 ⟨rfl, hb3⟩))
  go_ret
  have hz0 := HZ0.out
  exact ⟨rfl, Below.trans (Below.trans (by go_grown) (HB2.out.mono (by omega))) (hb3.mono (by omega))⟩

set_option maxHeartbeats 400000 in
theorem loMost_i (a b : Int) (w : World) :
    Calls Try.prog 56 #[.int .i64 a, .int .i64 b] w fun e w' => e = .returned (.int .i64 (max a b)) ∧ w = w' := by
  by_cases h : b < a
  · go_enter Try.func56, Try.ntmps56
    go_wp2
    go_ret
    exact ⟨by rw [Int.max_eq_left (by omega)]; rfl, rfl⟩
  · go_enter Try.func56, Try.ntmps56
    go_wp2
    go_ret
    exact ⟨by rw [Int.max_eq_right (by omega)]; rfl, rfl⟩

def outTo (L : List UInt8) (i : Nat) : List UInt8 := (L.drop i).reverse

theorem outTo_step (L : List UInt8) (i : Nat) (h : i < L.length) : outTo L (i + 1) ++ [L.getD i 0] = outTo L i := by
  unfold outTo
  rw [List.drop_eq_getElem_cons h, List.reverse_cons, List.getD, List.getElem?_eq_getElem h]
  rfl

set_option maxHeartbeats 1000000 in
set_option maxRecDepth 100000 in
theorem loBack_any (t : ByteArray) (w : World) (ht : t.size ≤ 16) :
    Calls Try.prog 60 #[.string t] w fun e w' => e = .returned (.string (txL (backL t.data.toList))) ∧ Below w.heap.size w w' := by
  have hlen := tx_len t
  have HO := Lib.hid (fun i (h : i < t.size) => And.intro (tx_one t i h) (outTo_step t.data.toList i (by omega)))
  have HZ := Lib.hid (fun i => show (outTo t.data.toList i).length ≤ t.size by unfold outTo; rw [List.length_reverse, List.length_drop]; omega)
  have h0 : outTo t.data.toList t.size = [] := by unfold outTo; rw [List.drop_eq_nil_of_le (by omega)]; rfl
  have hE : outTo t.data.toList 0 = t.data.toList.reverse := rfl
  have HL2 := Lib.hid (show (outTo t.data.toList 0).length = t.size by rw [hE, List.length_reverse]; exact hlen)
  have HB : Hid (backL t.data.toList = anewL (outTo t.data.toList 0)) := Lib.hid rfl
  obtain ⟨F, hF⟩ : ∃ F, outTo t.data.toList = F := ⟨_, rfl⟩
  rw [hF] at HO HZ h0 HL2 HB
  obtain ⟨R, hR⟩ : ∃ R, backL t.data.toList = R := ⟨_, rfl⟩
  rw [hR] at HB ⊢
  have H0 := Lib.hid h0
  obtain ⟨n, hn⟩ : ∃ n, t.size = n := ⟨_, rfl⟩
  rw [hn] at HZ HL2 H0 ht
  have HN := Lib.hid hn
  have e1 : IntKind.i64.wrap ((n : Int) - 1) = (n : Int) - 1 := by rw [IntKind.wrap_i64]; omega
  clear hF hE hlen h0 hR
  go_enter Try.func60, Try.ntmps60
  go_wp2
  go_loopw [3, 4] (fun o i wr => ∃ k : Nat, k ≤ n ∧ i = .int .i64 ((k : Int) - 1) ∧ o = .string (txL (F k)) ∧ Below w.heap.size w wr) (fun _ i _ => (intOf i + 1).toNat)
  case atStart => exact ⟨n, Nat.le_refl _, rfl, by rw [H0.out]; rfl, Below.refl _ _⟩
  case round =>
    obtain ⟨k, hk, rfl, rfl, hB⟩ := hrel
    have HBW := Lib.hid hB
    clear hB
    by_cases hlt : 1 ≤ k
    · obtain ⟨j, rfl⟩ : ∃ j, k = j + 1 := ⟨k - 1, by omega⟩
      obtain ⟨hone, hstep⟩ := HO.out j (by have := HN.out; omega)
      have hadd := txAdd (txL (F (j + 1))) (t.extract j (j + 1)) (by have := HZ.out (j + 1); rw [hone, txL_size, txL_size]; simp; omega)
      rw [show txL (F (j + 1)) ++ t.extract j (j + 1) = txL (F j) by rw [hone, txL_append, hstep]] at hadd
      have e2 : ((j + 1 : Nat) : Int) - 1 = (j : Int) := by omega
      have e3 : IntKind.i64.wrap ((j : Int) + 1) = (j : Int) + 1 := by rw [IntKind.wrap_i64]; omega
      have e4 : IntKind.i64.wrap ((j : Int) - 1) = (j : Int) - 1 := by rw [IntKind.wrap_i64]; omega
      have j0 : 0 ≤ (j : Int) := by omega
      have j1 : (j : Int) + 1 ≤ (n : Int) := by omega
      have j2 : (j : Int) ≤ (j : Int) + 1 := by omega
      have j3 : 0 ≤ (j : Int) + 1 := by omega
      have j4 : ((j : Int) + 1).toNat = j + 1 := by omega
      rw [e2]
      clear hone hstep e2
      go_wp2
      go_roundw
      case rel => exact ⟨j, by omega, rfl, rfl, HBW.out⟩
      case measure => simp [intOf]
    · obtain rfl : k = 0 := by omega
      have hk0 : ¬ (0 : Int) ≤ ((0 : Nat) : Int) - 1 := by omega
      go_wp2_with (first | (go_at_call 57; (with_reducible refine (loAnew_any (txL (F 0)) _ (by rw [txL_size, HL2.out]; exact ht)).mono ?_); rintro e w1 ⟨rfl, hb1⟩))
      go_ret
      exact ⟨by rw [HB.out]; rfl, HBW.out.trans (hb1.mono HBW.out.size)⟩

set_option maxHeartbeats 1000000 in
theorem core_BackLoop (t : ByteArray) (x : ByteArray) (y : Bool) (w : World) (ht0 : t.size ≤ 1048576)
    (hs : ∀ W : World, Calls Try.prog 29 #[.string t] W fun e w' => e = .returned (.tuple #[.string x, .bool y]) ∧ Below W.heap.size W w')
    (hi : ∀ W : World, Calls Try.prog 30 #[.string t] W fun e w' => e = .returned (.tuple #[.string x, .bool y]) ∧ Below W.heap.size W w') :
    Calls Try.prog 10 #[.string t] w fun e w' => e = .returned (.bool true) ∧ Below w.heap.size w w' := by
  have HS := Lib.hid hs
  have HI := Lib.hid hi
  have h0 : ¬ 1048576 < (t.size : Int) := by omega
  clear hs hi ht0
  go_enter Try.func10, Try.ntmps10
  go_wp2_with (first | (go_at_call 29; (with_reducible refine (HS.out _).mono ?_); rintro e w1 ⟨rfl, hb1⟩) | (go_at_call 30; (with_reducible refine (HI.out _).mono ?_); rintro e w2 ⟨rfl, hb2⟩))
  go_ret
  exact ⟨rfl, hb1.trans (hb2.mono hb1.size)⟩

set_option maxHeartbeats 400000 in
theorem long0_BackLoop (t : ByteArray) (w : World)  (ht : 1048576 < (t.size : Int)) :
    Calls Try.prog 10 #[.string t] w fun e w' => e = .returned (.bool true) ∧ Below w.heap.size w w' := by
  go_enter Try.func10, Try.ntmps10
  go_wp2
  go_ret
  exact ⟨rfl, Below.refl _ _⟩

set_option maxHeartbeats 1000000 in
theorem told_back (t : ByteArray) (ps : List (Nat × Nat)) (w : World) (ht : t.size ≤ 1048576) (h8 : ps.length ≤ 8) (hl : loopL t.data.toList = some ps) :
    Calls Try.prog 61 #[.string t, .func (.func 62) #[] #[]] w fun e w' => e = .returned (.tuple #[.string (txL (backL t.data.toList)), .bool true]) ∧ Below w.heap.size w w' := by
  have HL := Lib.hid hl
  have HLP := Lib.hid (loopL_some hl).1
  have HTS := Lib.hid (show t.size = 2 * ps.length ∧ ∀ k, k < ps.length → (ps.getD k (0, 0)).1 < (ps.getD k (0, 0)).2 ∧ (ps.getD k (0, 0)).2 < t.size from ⟨by rw [← tx_len]; exact HLP.out.len, fun k hk => by have h1 := HLP.out.lt k hk; have h2 := tx_len t; omega⟩)
  clear hl
  go_enter Try.func61, Try.ntmps61
  go_wp2_with (first | (go_at_call 40; (with_reducible refine (loopOf_yes t ps _ ht HL.out).mono ?_); rintro e w1 ⟨a0, cap, rfl, hP, hb1⟩; (have hz1 := hb1.size); (have HP := Lib.hid hP); clear hP) | (go_at_call 62; (refine (back_any t _ _ _ _ (by have := HTS.out.1; omega)).mono ?_); rintro e w2 ⟨rfl, hb2⟩))
  go_ret2
  exact ⟨rfl, Below.trans (Below.trans hb1 (by go_grown)) (hb2.mono (by simp; omega))⟩

set_option maxHeartbeats 400000 in
theorem sBackLoop_yes (t : ByteArray) (ps : List (Nat × Nat)) (w : World) (ht : t.size ≤ 1048576) (h : LoopP t.data.toList ps) (hg : goodL t.data.toList = true) :
    Calls Try.prog 29 #[.string t] w fun e w' => e = .returned (.tuple #[.string (txL (backL t.data.toList)), .bool true]) ∧ Below w.heap.size w w' := by
  have HG := Lib.hid hg
  have h16 : t.size ≤ 16 := by rw [← tx_len]; exact ((goodL_iff _).1 hg).1
  clear hg
  go_enter Try.func29, Try.ntmps29
  go_wp2_with (first | (go_at_call 39; (with_reducible refine (loGood_any t _ ht).mono ?_); rintro e w1 ⟨rfl, hb1⟩; rw [HG.out]) | (go_at_call 60; (with_reducible refine (loBack_any t _ h16).mono ?_); rintro e w2 ⟨rfl, hb2⟩))
  go_ret2
  exact ⟨rfl, hb1.trans (hb2.mono hb1.size)⟩

set_option maxHeartbeats 400000 in
theorem iBackLoop_yes (t : ByteArray) (ps : List (Nat × Nat)) (w : World) (ht : t.size ≤ 1048576) (h8 : ps.length ≤ 8) (hl : loopL t.data.toList = some ps) :
    Calls Try.prog 30 #[.string t] w fun e w' => e = .returned (.tuple #[.string (txL (backL t.data.toList)), .bool true]) ∧ Below w.heap.size w w' := by
  go_enter Try.func30, Try.ntmps30
  go_wp2_with (first | (go_at_call 61; (with_reducible refine (told_back t ps _ ht h8 hl).mono ?_); rintro e w1 ⟨rfl, hb1⟩))
  go_ret2
  exact ⟨rfl, hb1⟩

set_option maxHeartbeats 400000 in
theorem iBackLoop_no (t : ByteArray) (w : World) (ht : t.size ≤ 1048576) (hl : loopL t.data.toList = none) :
    Calls Try.prog 30 #[.string t] w fun e w' => e = .returned (.tuple #[.string ⟨#[]⟩, .bool false]) ∧ Below w.heap.size w w' := by
  go_enter Try.func30, Try.ntmps30
  go_wp2_with (first | (go_at_call 61; (with_reducible refine (told_no_string t _ _ ht hl).mono ?_); rintro e w1 ⟨rfl, hb1⟩))
  go_ret2
  exact ⟨rfl, hb1⟩

set_option maxHeartbeats 400000 in
theorem sBackLoop_no (t : ByteArray) (w : World) (ht : t.size ≤ 1048576) (hg : goodL t.data.toList = false) :
    Calls Try.prog 29 #[.string t] w fun e w' => e = .returned (.tuple #[.string ⟨#[]⟩, .bool false]) ∧ Below w.heap.size w w' := by
  have HG := Lib.hid hg
  clear hg
  go_enter Try.func29, Try.ntmps29
  go_wp2_with (first | (go_at_call 39; (with_reducible refine (loGood_any t _ ht).mono ?_); rintro e w1 ⟨rfl, hb1⟩; rw [HG.out]))
  go_ret2
  exact ⟨rfl, hb1⟩

theorem main_BackLoop (t : ByteArray) (w : World) (ht : t.size ≤ 1048576) : Calls Try.prog 10 #[.string t] w fun e w' => e = .returned (.bool true) ∧ Below w.heap.size w w' := by
  cases hl : loopL t.data.toList with
  | none => exact core_BackLoop t _ _ w ht (fun W => sBackLoop_no t W ht (loopL_none hl)) (fun W => iBackLoop_no t W ht hl)
  | some ps =>
    obtain ⟨h1, h2⟩ := loopL_some hl
    exact core_BackLoop t _ _ w ht (fun W => sBackLoop_yes t ps W ht h1 h2) (fun W => iBackLoop_yes t ps W ht h1.few hl)

theorem walk_BackLoop (t : ByteArray) (w : World) (wf0 : t.size ≤ maxLen) :
    Calls Try.prog 10 #[.string t] w fun e w' => e = .returned (.bool true) ∧ Below w.heap.size w w' := by
  by_cases h0 : 1048576 < (t.size : Int)
  · exact long0_BackLoop t w  h0
  exact main_BackLoop t w (by omega)

end Go.Proofs.Ytpcebcgmbngabaa
