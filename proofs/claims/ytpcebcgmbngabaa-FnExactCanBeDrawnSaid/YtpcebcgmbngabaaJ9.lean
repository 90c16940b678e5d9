/- Loops: letters interlaced with one, by both sides. -/
import Derived.Test.YtpcebcgmbngabaaJ8
import Derived.Test.YtpcebcgmbngabaaET
import Derived.Test.YtpcebcgmbngabaaB6
import Derived.Test.YtpcebcgmbngabaaB9
import Derived.Laws.BytesArg
namespace Go.Proofs.Ytpcebcgmbngabaa
open Go.RowKit
set_option linter.unusedVariables false
theorem info_int : (Try.prog.info? 3).map (fun i => (i.zero, i.size, i.bytes)) = some (some (.int .i64 0), 1, 8) := by kernel_rfl

theorem main_AreInterlaced (t a b : ByteArray) (w : World) (ht0 : t.size ≤ 1048576) (ht1 : a.size ≤ 1048576) (ht2 : b.size ≤ 1048576) : Calls Try.prog 5 #[.string t, .string a, .string b] w fun e w' => e = .returned (.bool true) ∧ Below w.heap.size w w' := by
  cases hl : loopL t.data.toList with
  | none => exact core_AreInterlaced t a b _ _ w ht0 ht1 ht2 (fun W => sAreInterlaced_bad t a b [] 0 W ht0 (loopL_none hl)) (fun W => iAreInterlaced_bad t a b W ht0 hl)
  | some ps =>
    obtain ⟨h1, h2⟩ := loopL_some hl
    cases hx : letK a ps.length with
    | none => exact core_AreInterlaced t a b _ _ w ht0 ht1 ht2 (fun W => sAreInterlaced_no1 t a b ps 0 W ht0 h2 h1.size h1.few hx) (fun W => iAreInterlaced_no1 t a b ps 0 W ht0 hl hx)
    | some x =>
      cases hy : letK b ps.length with
      | none => exact core_AreInterlaced t a b _ _ w ht0 ht1 ht2 (fun W => sAreInterlaced_no2 t a b ps x W ht0 h2 h1.size h1.few hx hy) (fun W => iAreInterlaced_no2 t a b ps x W ht0 hl hx hy)
      | some y => exact core_AreInterlaced t a b _ _ w ht0 ht1 ht2 (fun W => sAreInterlaced_yes t a b ps x y W ht0 h1 h2 hx hy) (fun W => iAreInterlaced_yes t a b ps x y W ht0 hl hx hy)

theorem walk_AreInterlaced (t : ByteArray) (a : ByteArray) (b : ByteArray) (w : World) (wf0 : t.size ≤ maxLen) (wf1 : a.size ≤ maxLen) (wf2 : b.size ≤ maxLen) :
    Calls Try.prog 5 #[.string t, .string a, .string b] w fun e w' => e = .returned (.bool true) ∧ Below w.heap.size w w' := by
  by_cases h0 : 1048576 < (t.size : Int)
  · exact long0_AreInterlaced t a b w  h0
  by_cases h1 : 1048576 < (a.size : Int)
  · exact long1_AreInterlaced t a b w h0 h1
  by_cases h2 : 1048576 < (b.size : Int)
  · exact long2_AreInterlaced t a b w h0 h1 h2
  exact main_AreInterlaced t a b w (by omega) (by omega) (by omega)

set_option maxHeartbeats 1000000 in
theorem oneFn_any (ps : List (Nat × Nat)) (x k gl gi n cap B T : Nat) (a0 : Option Addr) (b : Bool) (w : World) (hL : PairsIn 64 w B T (.slice a0 n cap) (pI ps)) (hl : w.cell? ⟨gl, 0, none⟩ = some (.slice a0 n cap)) (hi : w.cell? ⟨gi, 0, none⟩ = some (.int .i64 x)) (hx : x < ps.length) (hk : k < ps.length) (hb : lacedP ps x k = b) :
    Calls Try.prog 72 #[.int .i64 k, .pointer (some ⟨gl, 0, none⟩), .pointer (some ⟨gi, 0, none⟩)] w fun e w' => e = .returned (.bool b) ∧ Below w.heap.size w w' := by
  have HL := Lib.hid hL
  have HB := Lib.hid hb
  clear hL hb
  go_enter Try.func72, Try.ntmps72
  go_wp2_with (first | (go_at_call 46; (refine (areInterlaced_any _ _ _ ps _ _ x k _ HL.out hx hk).mono ?_); rintro e w1 ⟨rfl, hb1⟩; rw [HB.out]))
  go_ret
  exact ⟨rfl, hb1⟩

set_option maxHeartbeats 1000000 in
theorem where_one (p : Nat) (ps : List (Nat × Nat)) (x gl gi n cap B T : Nat) (a0 : Option Addr) (c : Nat → Bool) (w : World) (h : p ≤ 8) (hp : p = ps.length) (hL : PairsIn 64 w B T (.slice a0 n cap) (pI ps)) (hT : T ≤ w.heap.size) (hl : w.cell? ⟨gl, 0, none⟩ = some (.slice a0 n cap)) (hi : w.cell? ⟨gi, 0, none⟩ = some (.int .i64 x)) (hx : x < ps.length) (hcd : ∀ k, k < p → lacedP ps x k = c k) :
    Calls Try.prog 71 #[.int .i64 p, .func (.func 72) #[] #[.pointer (some ⟨gl, 0, none⟩), .pointer (some ⟨gi, 0, none⟩)]] w (GivesT w (selT c p)) := by
  have HCD := Lib.hid hcd
  have HL := Lib.hid hL
  have SX := Lib.hid hi
  have SL := Lib.hid hl
  have HP := Lib.hid hp
  have HXX := Lib.hid hx
  clear hcd hL hl hi hp hx
  go_enter Try.func71, Try.ntmps71
  go_wp2
  go_loopw [5, 8] (fun u i wr => ∃ k : Nat, k ≤ p ∧ i = .int .i64 k ∧ Ints wr w.heap.size 3 u (selT c k) ∧ Below w.heap.size w wr) (fun _ i _ => p - (intOf i).toNat)
  case atStart => exact ⟨0, by omega, rfl, World.ownsRow_nil _ _ _ _, Below.refl _ _⟩
  case round =>
    obtain ⟨k, hk, rfl, hI, hB⟩ := hrel
    have HI := Lib.hid hI
    have hz := hB.size
    clear hI
    by_cases hlt : k < p
    · have hlen := selT_length c k
      have HL2 := Lib.hid (HL.out.keep (belowSame hB hT))
      have SX2 := Lib.hid ((hB.cell (p := ⟨gi, 0, none⟩) (World.block_lt_of_cell? w _ SX.out)).trans SX.out)
      have SL2 := Lib.hid ((hB.cell (p := ⟨gl, 0, none⟩) (World.block_lt_of_cell? w _ SL.out)).trans SL.out)
      cases hcb : c k with
      | true =>
        have HS := Lib.hid (selT_yes c k hcb)
        have HCB := Lib.hid hcb
        clear hcb
        go_wp2_with (first
          | (go_at_call 72; (refine (oneFn_any ps x k gl gi n cap B T a0 true _ HL2.out SL2.out SX2.out HXX.out (by have := HP.out; omega) ((HCD.out k hlt).trans HCB.out)).mono ?_); rintro e w1 ⟨rfl, hb1⟩; have HI1 := Lib.hid (HI.out.later hb1); have hB1 := hB.trans (hb1.mono hz); have hz1 := hB1.size)
          | (at_builtin; refine wpList_append_int rfl _ _ 49 rfl (w.heap.size) 3 Try.underlying49 info_int _ _ rfl HI1.out (k : Int) rfl (by omega) (by omega) ?_; intro v' w' hI' hg'; have hB' := HI1.out.below hB1 hz1 hg'; rw [HS.out] at hI'; have HI' := Lib.hid hI'; clear hI'))
        go_roundw
        case rel => exact ⟨k + 1, by omega, by go_num, HI'.out, hB'⟩
        case measure => simp [intOf]; omega
      | false =>
        have HS := Lib.hid (selT_no c k hcb)
        have HCB := Lib.hid hcb
        clear hcb
        go_wp2_with (first
          | (go_at_call 72; (refine (oneFn_any ps x k gl gi n cap B T a0 false _ HL2.out SL2.out SX2.out HXX.out (by have := HP.out; omega) ((HCD.out k hlt).trans HCB.out)).mono ?_); rintro e w1 ⟨rfl, hb1⟩; have HI1 := Lib.hid (HI.out.later hb1); have hB1 := hB.trans (hb1.mono hz)))
        go_roundw
        case rel => exact ⟨k + 1, by omega, by go_num, by rw [← HS.out]; exact HI1.out, hB1⟩
        case measure => simp [intOf]; omega
    · obtain rfl : k = p := by omega
      go_wp2
      go_ret
      exact ⟨_, rfl, HI.out, hB⟩

set_option maxHeartbeats 1000000 in
theorem withOne_any (a0 : Option Addr) (n cap : Nat) (ps : List (Nat × Nat)) (B T x : Nat) (w : World) (h : PairsIn 64 w B T (.slice a0 n cap) (pI ps)) (hT : T ≤ w.heap.size) (hx : x < ps.length) (h8 : ps.length ≤ 8) :
    Calls Try.prog 49 #[.slice a0 n cap, .int .i64 x] w (GivesT w (selT (lacedP ps x) ps.length)) := by
  obtain rfl := letters_len h
  have HL := Lib.hid h
  clear h
  go_enter Try.func49, Try.ntmps49
  go_wp2_with (first | (go_at_call 71; (refine (where_one ps.length ps x w.heap.size (w.heap.size + 1) ps.length cap B T a0 (lacedP ps x) _ h8 rfl (HL.out.keep (belowSame (by go_grown) hT)) (by simp; omega) (by go_simp) (by go_simp) hx (fun k hk => rfl)).mono ?_); rintro e w1 ⟨v, rfl, hI1, hb1⟩))
  go_ret
  exact ⟨v, rfl, hI1.mono (by simp; omega), Below.trans (by go_grown) (hb1.mono (by simp; omega))⟩

/-- The letters with the indices. -/
def letT (xs : List Int) : List UInt8 := xs.map fun i => lt8 i.toNat

def letV (xs : List Int) (i : Nat) : Int := 97 + xs.getD i 0

theorem letT_nums (xs : List Int) (h : ∀ i, i < xs.length → 0 ≤ xs.getD i 0 ∧ xs.getD i 0 < 16) : strOfNums ((List.range xs.length).map (letV xs)) = txL (letT xs) := by
  unfold strOfNums txL letT
  congr 2
  apply List.ext_getElem (by simp)
  intro i h1 h2
  simp at h1
  have := h i h1
  rw [List.getD, List.getElem?_eq_getElem h1] at this
  simp only [Option.getD_some] at this
  simp only [List.getElem_map, List.getElem_range, letV, List.getD, List.getElem?_eq_getElem h1, Option.getD_some]
  apply lt8_of
  rw [UInt8.toNat_ofNat']
  omega

set_option maxHeartbeats 2000000 in
theorem textOfLetters_any (v : Value) (xs : List Int) (B T : Nat) (w : World) (h : IntsIn 3 w B T v xs) (hT : T ≤ w.heap.size) (hl : xs.length ≤ 16) (hx : ∀ i, i < xs.length → 0 ≤ xs.getD i 0 ∧ xs.getD i 0 < 16) :
    Calls Try.prog 48 #[v] w fun e w' => e = .returned (.string (txL (letT xs))) ∧ Below w.heap.size w w' := by
  have HI := Lib.hid h
  have HX := Lib.hid hx
  have HN := Lib.hid (letT_nums xs hx)
  obtain ⟨a1, cap1, g1, rfl, ha1, -, -, -, hc1, -⟩ := h.ints.view
  have HC := Lib.hid hc1
  have hmk := make_bytes (P := Try.prog) Try.underlying66 (show (Try.prog.info? 5).map (fun i => (i.zero, i.size, i.bytes)) = some (some (.int .u8 0), 1, 1) by kernel_rfl) xs.length (by omega)
  obtain ⟨n, hn⟩ : ∃ n, xs.length = n := ⟨_, rfl⟩
  rw [hn] at ha1 hl hmk ⊢
  have HNN := Lib.hid hn
  clear h hx hc1 hn
  go_enter Try.func48, Try.ntmps48
  go_wp2
  clear hmk
  go_loopw [11] (fun i wr => ∃ k : Nat, k ≤ n ∧ i = .int .i64 k ∧ BytAt 5 wr w.heap.size (fillG (letV xs) 0 n k) ∧ Below w.heap.size w wr) (fun i _ => n - (intOf i).toNat)
  case atStart => exact ⟨0, by omega, rfl, by rw [fillG_zero]; exact heap_alloc_new w _, by go_grown⟩
  case round =>
    obtain ⟨k, hk, rfl, hBy, hB⟩ := hrel
    by_cases hlt : k < n
    · obtain rfl := ha1 (by omega)
      have hx2 := HX.out k (by have := HNN.out; omega)
      have hc2 := (hB.cell (p := ⟨g1, k, none⟩) (World.block_lt_of_cell? w _ (HC.out k (by have := HNN.out; omega)))).trans (HC.out k (by have := HNN.out; omega))
      obtain ⟨q, hq⟩ : ∃ q : Nat, xs.getD k 0 = (q : Int) := ⟨(xs.getD k 0).toNat, by omega⟩
      rw [hq] at hx2 hc2
      have HV := Lib.hid (show letV xs k = ((97 + q : Nat) : Int) by unfold letV; rw [hq]; simp)
      have hfl : (fillG (letV xs) 0 n k).length = n := fillG_length _ _ _ _ (by omega)
      have hcell := hBy.cell k (by omega)
      have hfz := hBy.frozen k
      have hst := hBy.stored k ((97 + q : Nat) : Int)
      rw [← HV.out, fillG_set (letV xs) 0 n k hlt] at hst
      rw [HV.out] at hst
      have HST := Lib.hid hst
      obtain ⟨z, hz⟩ : ∃ z, (fillG (letV xs) 0 n k).getD k 0 = z := ⟨_, rfl⟩
      rw [hz] at hcell
      have k0 : 0 ≤ (k : Int) := by omega
      have k1 : (k : Int) < (n : Int) := by omega
      have HB := Lib.hid hB
      clear hst hBy hB hz hq
      go_wp2_with (first | (go_at_call 70; (with_reducible refine (letterOf_any q _ (by omega)).mono ?_); rintro e w2 ⟨rfl, rfl⟩))
      go_roundw
      case rel => exact ⟨k + 1, by omega, by go_num, HST.out, Below.trans HB.out (by go_grown)⟩
      case measure => simp [intOf]; omega
    · obtain rfl : k = n := by omega
      rw [fillG_all] at hBy
      have hcv := run_convert_bytes_arg (P := Try.prog) wr 66 5 Try.underlying66 Try.underlying5 w.heap.size 0 k k ((List.range k).map (letV xs)) (by simp) (fun i hi => by rw [Nat.zero_add]; exact hBy.cell i (by simpa using hi)) 9 Try.underlying9
      rw [show strOfNums ((List.range k).map (letV xs)) = txL (letT xs) by rw [← HN.out, HNN.out]] at hcv
      clear hBy
      go_wp2
      go_ret
      exact ⟨rfl, hB⟩

end Go.Proofs.Ytpcebcgmbngabaa
