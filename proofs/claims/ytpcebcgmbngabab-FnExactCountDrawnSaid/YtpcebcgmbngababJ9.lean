/- Loops: letters interlaced with one, by both sides. -/
import Derived.Test.YtpcebcgmbngababJ8
import Derived.Test.YtpcebcgmbngababET
import Derived.Test.YtpcebcgmbngababV0
import Derived.Test.YtpcebcgmbngababB6
import Derived.Test.YtpcebcgmbngababB9
import Derived.Laws.BytesArg
namespace Go.Proofs.Ytpcebcgmbngabab
open Go.RowKit
set_option linter.unusedVariables false

set_option maxHeartbeats 1000000 in
theorem oneFn_any (ps : List (Nat × Nat)) (x k gl gi n cap B T : Nat) (a0 : Option Addr) (b : Bool) (w : World) (hL : PairsIn 96 w B T (.slice a0 n cap) (pI ps)) (hl : w.cell? ⟨gl, 0, none⟩ = some (.slice a0 n cap)) (hi : w.cell? ⟨gi, 0, none⟩ = some (.int .i64 x)) (hx : x < ps.length) (hk : k < ps.length) (hb : lacedP ps x k = b) :
    Calls Try.prog 129 #[.int .i64 k, .pointer (some ⟨gl, 0, none⟩), .pointer (some ⟨gi, 0, none⟩)] w fun e w' => e = .returned (.bool b) ∧ Below w.heap.size w w' := by
  have HL := Lib.hid hL
  have HB := Lib.hid hb
  clear hL hb
  go_enter Try.func129, Try.ntmps129
  go_wp2_with (first | (go_at_call 123; (refine (areInterlaced_any _ _ _ ps _ _ x k _ HL.out hx hk).mono ?_); rintro e w1 ⟨rfl, hb1⟩; rw [HB.out]))
  go_ret
  exact ⟨rfl, hb1⟩

set_option maxHeartbeats 1000000 in
theorem where_one (p : Nat) (ps : List (Nat × Nat)) (x gl gi n cap B T : Nat) (a0 : Option Addr) (c : Nat → Bool) (w : World) (h : p ≤ 8) (hp : p = ps.length) (hL : PairsIn 96 w B T (.slice a0 n cap) (pI ps)) (hT : T ≤ w.heap.size) (hl : w.cell? ⟨gl, 0, none⟩ = some (.slice a0 n cap)) (hi : w.cell? ⟨gi, 0, none⟩ = some (.int .i64 x)) (hx : x < ps.length) (hcd : ∀ k, k < p → lacedP ps x k = c k) :
    Calls Try.prog 128 #[.int .i64 p, .func (.func 129) #[] #[.pointer (some ⟨gl, 0, none⟩), .pointer (some ⟨gi, 0, none⟩)]] w (GivesT w (selT c p)) := by
  have HCD := Lib.hid hcd
  have HL := Lib.hid hL
  have SX := Lib.hid hi
  have SL := Lib.hid hl
  have HP := Lib.hid hp
  have HXX := Lib.hid hx
  clear hcd hL hl hi hp hx
  go_enter Try.func128, Try.ntmps128
  go_wp2
  go_loopw [5, 8] (fun u i wr => ∃ k : Nat, k ≤ p ∧ i = .int .i64 k ∧ Ints wr w.heap.size 3 u (selT c k) ∧ Below w.heap.size w wr) (fun _ i _ => p - (intOf i).toNat)
  case atStart => exact ⟨0, by omega, rfl, World.ownsRow_nil _ _ _ _, Below.refl _ _⟩
  case round =>
    obtain ⟨k, hk, rfl, hI, hB⟩ := hrel
    have HI := Lib.hid hI
    have hz := hB.size
    clear hI
    by_cases hlt : k < p
    · have hlen := selT_length c k
      have HL2 := Lib.hid (HL.out.keep (belowSame hB hT))
      have SX2 := Lib.hid ((hB.cell (p := ⟨gi, 0, none⟩) (World.block_lt_of_cell? w _ SX.out)).trans SX.out)
      have SL2 := Lib.hid ((hB.cell (p := ⟨gl, 0, none⟩) (World.block_lt_of_cell? w _ SL.out)).trans SL.out)
      cases hcb : c k with
      | true =>
        have HS := Lib.hid (selT_yes c k hcb)
        have HCB := Lib.hid hcb
        clear hcb
        go_wp2_with (first
          | (go_at_call 129; (refine (oneFn_any ps x k gl gi n cap B T a0 true _ HL2.out SL2.out SX2.out HXX.out (by have := HP.out; omega) ((HCD.out k hlt).trans HCB.out)).mono ?_); rintro e w1 ⟨rfl, hb1⟩; have HI1 := Lib.hid (HI.out.later hb1); have hB1 := hB.trans (hb1.mono hz); have hz1 := hB1.size)
          | (at_builtin; refine wpList_append_int rfl _ _ 39 rfl (w.heap.size) 3 Try.underlying39 info_int _ _ rfl HI1.out (k : Int) rfl (by omega) (by omega) ?_; intro v' w' hI' hg'; have hB' := HI1.out.below hB1 hz1 hg'; rw [HS.out] at hI'; have HI' := Lib.hid hI'; clear hI'))
        go_roundw
        case rel => exact ⟨k + 1, by omega, by go_num, HI'.out, hB'⟩
        case measure => simp [intOf]; omega
      | false =>
        have HS := Lib.hid (selT_no c k hcb)
        have HCB := Lib.hid hcb
        clear hcb
        go_wp2_with (first
          | (go_at_call 129; (refine (oneFn_any ps x k gl gi n cap B T a0 false _ HL2.out SL2.out SX2.out HXX.out (by have := HP.out; omega) ((HCD.out k hlt).trans HCB.out)).mono ?_); rintro e w1 ⟨rfl, hb1⟩; have HI1 := Lib.hid (HI.out.later hb1); have hB1 := hB.trans (hb1.mono hz)))
        go_roundw
        case rel => exact ⟨k + 1, by omega, by go_num, by rw [← HS.out]; exact HI1.out, hB1⟩
        case measure => simp [intOf]; omega
    · obtain rfl : k = p := by omega
      go_wp2
      go_ret
      exact ⟨_, rfl, HI.out, hB⟩

set_option maxHeartbeats 1000000 in
theorem withOne_any (a0 : Option Addr) (n cap : Nat) (ps : List (Nat × Nat)) (B T x : Nat) (w : World) (h : PairsIn 96 w B T (.slice a0 n cap) (pI ps)) (hT : T ≤ w.heap.size) (hx : x < ps.length) (h8 : ps.length ≤ 8) :
    Calls Try.prog 122 #[.slice a0 n cap, .int .i64 x] w (GivesT w (selT (lacedP ps x) ps.length)) := by
  obtain rfl := letters_len h
  have HL := Lib.hid h
  clear h
  go_enter Try.func122, Try.ntmps122
  go_wp2_with (first | (go_at_call 128; (refine (where_one ps.length ps x w.heap.size (w.heap.size + 1) ps.length cap B T a0 (lacedP ps x) _ h8 rfl (HL.out.keep (belowSame (by go_grown) hT)) (by simp; omega) (by go_simp) (by go_simp) hx (fun k hk => rfl)).mono ?_); rintro e w1 ⟨v, rfl, hI1, hb1⟩))
  go_ret
  exact ⟨v, rfl, hI1.mono (by simp; omega), Below.trans (by go_grown) (hb1.mono (by simp; omega))⟩

/-- The letters with the indices. -/
def letT (xs : List Int) : List UInt8 := xs.map fun i => lt8 i.toNat

def letV (xs : List Int) (i : Nat) : Int := 97 + xs.getD i 0

theorem letT_nums (xs : List Int) (h : ∀ i, i < xs.length → 0 ≤ xs.getD i 0 ∧ xs.getD i 0 < 16) : strOfNums ((List.range xs.length).map (letV xs)) = txL (letT xs) := by
  unfold strOfNums txL letT
  congr 2
  apply List.ext_getElem (by simp)
  intro i h1 h2
  simp at h1
  have := h i h1
  rw [List.getD, List.getElem?_eq_getElem h1] at this
  simp only [Option.getD_some] at this
  simp only [List.getElem_map, List.getElem_range, letV, List.getD, List.getElem?_eq_getElem h1, Option.getD_some]
  apply lt8_of
  rw [UInt8.toNat_ofNat']
  omega

end Go.Proofs.Ytpcebcgmbngabab
