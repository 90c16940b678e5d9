/- Times tables: the points of which something is told, by the program. -/
import Derived.Test.YtincoaebdmikbaaT6
namespace Go.Proofs.Ytincoaebdmikbaa
open Go.RowKit
set_option linter.unusedVariables false

set_option maxHeartbeats 400000 in
theorem fixFn_any (x k g : Nat) (b : Bool) (w : World) (hc : w.cell? ⟨g, k, none⟩ = some (.int .i64 x)) (hk : k < 60) (hb : (x == k) = b) :
    Calls Try.prog 69 #[.int .i64 k, .pointer (some ⟨g, 0, none⟩)] w fun e w' => e = .returned (.bool b) ∧ Below w.heap.size w w' := by
  have e1 : ((x : Int) == (k : Int)) = b := by
    rw [← hb, Bool.eq_iff_iff, beq_iff_eq, beq_iff_eq]
    omega
  clear hb
  go_enter Try.func69, Try.ntmps69
  cases b
  all_goals
    go_wp2
    go_ret
    exact ⟨rfl, Below.refl _ _⟩

set_option maxHeartbeats 400000 in
theorem lineFn_any (x k q g gp : Nat) (b : Bool) (w : World) (hc : w.cell? ⟨g, k, none⟩ = some (.int .i64 x)) (hq : w.cell? ⟨gp, 0, none⟩ = some (.int .i64 q)) (hk : k < 60) (hb : (x == q) = b) :
    Calls Try.prog 54 #[.int .i64 k, .pointer (some ⟨g, 0, none⟩), .pointer (some ⟨gp, 0, none⟩)] w fun e w' => e = .returned (.bool b) ∧ Below w.heap.size w w' := by
  have e1 : ((x : Int) == (q : Int)) = b := by
    rw [← hb, Bool.eq_iff_iff, beq_iff_eq, beq_iff_eq]
    omega
  have k0 : 0 ≤ (k : Int) := by omega
  have k1 : (k : Int) < 60 := by omega
  clear hb
  go_enter Try.func54, Try.ntmps54
  cases b
  all_goals
    go_wp2
    go_quiet (fail)
    go_wp2
    go_ret
    exact ⟨rfl, by first | exact bdn (Below.refl _ _) _ | go_grown⟩

set_option maxHeartbeats 400000 in
theorem hitFn_any (p f k g gp : Nat) (b : Bool) (w : World) (h : 3 ≤ p ∧ p ≤ 60) (hf : f < p) (hr : RowAt w g p f) (hq : w.cell? ⟨gp, 0, none⟩ = some (.int .i64 p)) (hk : k < p) (hb : (rowT p f p).contains (k : Int) = b) :
    Calls Try.prog 56 #[.int .i64 k, .pointer (some ⟨g, 0, none⟩), .pointer (some ⟨gp, 0, none⟩)] w fun e w' => e = .returned (.bool b) ∧ Below w.heap.size w w' := by
  have HR := Lib.hid hr
  have HB := Lib.hid hb
  have p0 : 0 ≤ (p : Int) := by omega
  have p1 : (p : Int) ≤ 60 := by omega
  clear hr hb
  go_enter Try.func56, Try.ntmps56
  go_wp2_with (go_at_call 57; (refine (contains_any g p 60 (rowT p f p) (k : Int) b _ (rowT_length p f p) (by omega) (fun i hi => by rw [rowT_at p f i hi]; exact HR.out.cell i hi) HB.out).mono ?_); rintro e w2 ⟨rfl, rfl⟩)
  go_ret
  exact ⟨rfl, Below.refl _ _⟩

set_option maxHeartbeats 1000000 in
theorem where_fix (p : Nat) (f g : Nat) (c : Nat → Bool) (w : World) (h : 3 ≤ p ∧ p ≤ 60) (hf : f < p) (hr : RowAt w g p f) (hcd : ∀ k, k < p → (k * f % p == k) = c k) :
    Calls Try.prog 53 #[.int .i64 p, .func (.func 69) #[] #[.pointer (some ⟨g, 0, none⟩)]] w (GivesT w (selT c p)) := by
  have HCD := Lib.hid hcd
  have HR := Lib.hid hr
  clear hcd hr
  go_enter Try.func53, Try.ntmps53
  go_wp2
  go_loopw [5, 8] (fun u i wr => ∃ k : Nat, k ≤ p ∧ i = .int .i64 k ∧ Ints wr w.heap.size 3 u (selT c k) ∧ Below w.heap.size w wr) (fun _ i _ => p - (intOf i).toNat)
  case atStart => exact ⟨0, by omega, rfl, World.ownsRow_nil _ _ _ _, Below.refl _ _⟩
  case round =>
    obtain ⟨k, hk, rfl, hI, hB⟩ := hrel
    have HI := Lib.hid hI
    have hz := hB.size
    clear hI
    by_cases hlt : k < p
    · have hlen := selT_length c k
      have HR2 := Lib.hid (HR.out.below hB HR.out.lt)
      cases hcb : c k with
      | true =>
        have HS := Lib.hid (selT_yes c k hcb)
        have HCB := Lib.hid hcb
        clear hcb
        go_wp2_with (first
          | (go_at_call 69; (refine (fixFn_any (k * f % p) k g true _ (HR2.out.cell k hlt) (by omega) ((HCD.out k hlt).trans HCB.out)).mono ?_); rintro e w1 ⟨rfl, hb1⟩; have HI1 := Lib.hid (HI.out.later hb1); have hB1 := hB.trans (hb1.mono hz); have hz1 := hB1.size)
          | (at_builtin; refine wpList_append_int rfl _ _ 27 rfl (w.heap.size) 3 Try.underlying27 info_int _ _ rfl HI1.out (k : Int) rfl (by omega) (by omega) ?_; intro v' w' hI' hg'; have hB' := HI1.out.below hB1 hz1 hg'; rw [HS.out] at hI'; have HI' := Lib.hid hI'; clear hI'))
        go_roundw
        case rel => exact ⟨k + 1, by omega, by go_num, HI'.out, hB'⟩
        case measure => simp [intOf]; omega
      | false =>
        have HS := Lib.hid (selT_no c k hcb)
        have HCB := Lib.hid hcb
        clear hcb
        go_wp2_with (first
          | (go_at_call 69; (refine (fixFn_any (k * f % p) k g false _ (HR2.out.cell k hlt) (by omega) ((HCD.out k hlt).trans HCB.out)).mono ?_); rintro e w1 ⟨rfl, hb1⟩; have HI1 := Lib.hid (HI.out.later hb1); have hB1 := hB.trans (hb1.mono hz)))
        go_roundw
        case rel => exact ⟨k + 1, by omega, by go_num, by rw [← HS.out]; exact HI1.out, hB1⟩
        case measure => simp [intOf]; omega
    · obtain rfl : k = p := by omega
      go_wp2
      go_ret
      exact ⟨_, rfl, HI.out, hB⟩

set_option maxHeartbeats 1000000 in
theorem where_line (p : Nat) (f q g gp : Nat) (c : Nat → Bool) (w : World) (h : 3 ≤ p ∧ p ≤ 60) (hf : f < p) (hr : RowAt w g p f) (hq : w.cell? ⟨gp, 0, none⟩ = some (.int .i64 q)) (hcd : ∀ k, k < p → (k * f % p == q) = c k) :
    Calls Try.prog 53 #[.int .i64 p, .func (.func 54) #[] #[.pointer (some ⟨g, 0, none⟩), .pointer (some ⟨gp, 0, none⟩)]] w (GivesT w (selT c p)) := by
  have HCD := Lib.hid hcd
  have HR := Lib.hid hr
  have HQ := Lib.hid hq
  clear hcd hr hq
  go_enter Try.func53, Try.ntmps53
  go_wp2
  go_loopw [5, 8] (fun u i wr => ∃ k : Nat, k ≤ p ∧ i = .int .i64 k ∧ Ints wr w.heap.size 3 u (selT c k) ∧ Below w.heap.size w wr) (fun _ i _ => p - (intOf i).toNat)
  case atStart => exact ⟨0, by omega, rfl, World.ownsRow_nil _ _ _ _, Below.refl _ _⟩
  case round =>
    obtain ⟨k, hk, rfl, hI, hB⟩ := hrel
    have HI := Lib.hid hI
    have hz := hB.size
    clear hI
    by_cases hlt : k < p
    · have hlen := selT_length c k
      have HR2 := Lib.hid (HR.out.below hB HR.out.lt)
      have HQ2 := Lib.hid ((hB.cell (p := ⟨gp, 0, none⟩) (World.block_lt_of_cell? w _ HQ.out)).trans HQ.out)
      cases hcb : c k with
      | true =>
        have HS := Lib.hid (selT_yes c k hcb)
        have HCB := Lib.hid hcb
        clear hcb
        go_wp2_with (first
          | (go_at_call 54; (refine (lineFn_any (k * f % p) k q g gp true _ (HR2.out.cell k hlt) HQ2.out (by omega) ((HCD.out k hlt).trans HCB.out)).mono ?_); rintro e w1 ⟨rfl, hb1⟩; have HI1 := Lib.hid (HI.out.later hb1); have hB1 := hB.trans (hb1.mono hz); have hz1 := hB1.size)
          | (at_builtin; refine wpList_append_int rfl _ _ 27 rfl (w.heap.size) 3 Try.underlying27 info_int _ _ rfl HI1.out (k : Int) rfl (by omega) (by omega) ?_; intro v' w' hI' hg'; have hB' := HI1.out.below hB1 hz1 hg'; rw [HS.out] at hI'; have HI' := Lib.hid hI'; clear hI'))
        go_roundw
        case rel => exact ⟨k + 1, by omega, by go_num, HI'.out, hB'⟩
        case measure => simp [intOf]; omega
      | false =>
        have HS := Lib.hid (selT_no c k hcb)
        have HCB := Lib.hid hcb
        clear hcb
        go_wp2_with (first
          | (go_at_call 54; (refine (lineFn_any (k * f % p) k q g gp false _ (HR2.out.cell k hlt) HQ2.out (by omega) ((HCD.out k hlt).trans HCB.out)).mono ?_); rintro e w1 ⟨rfl, hb1⟩; have HI1 := Lib.hid (HI.out.later hb1); have hB1 := hB.trans (hb1.mono hz)))
        go_roundw
        case rel => exact ⟨k + 1, by omega, by go_num, by rw [← HS.out]; exact HI1.out, hB1⟩
        case measure => simp [intOf]; omega
    · obtain rfl : k = p := by omega
      go_wp2
      go_ret
      exact ⟨_, rfl, HI.out, hB⟩

set_option maxHeartbeats 1000000 in
theorem where_hit (p : Nat) (f g gp : Nat) (c : Nat → Bool) (w : World) (h : 3 ≤ p ∧ p ≤ 60) (hf : f < p) (hr : RowAt w g p f) (hq : w.cell? ⟨gp, 0, none⟩ = some (.int .i64 p)) (hcd : ∀ k, k < p → (rowT p f p).contains (k : Int) = c k) :
    Calls Try.prog 53 #[.int .i64 p, .func (.func 56) #[] #[.pointer (some ⟨g, 0, none⟩), .pointer (some ⟨gp, 0, none⟩)]] w (GivesT w (selT c p)) := by
  have HCD := Lib.hid hcd
  have HR := Lib.hid hr
  have HQ := Lib.hid hq
  clear hcd hr hq
  go_enter Try.func53, Try.ntmps53
  go_wp2
  go_loopw [5, 8] (fun u i wr => ∃ k : Nat, k ≤ p ∧ i = .int .i64 k ∧ Ints wr w.heap.size 3 u (selT c k) ∧ Below w.heap.size w wr) (fun _ i _ => p - (intOf i).toNat)
  case atStart => exact ⟨0, by omega, rfl, World.ownsRow_nil _ _ _ _, Below.refl _ _⟩
  case round =>
    obtain ⟨k, hk, rfl, hI, hB⟩ := hrel
    have HI := Lib.hid hI
    have hz := hB.size
    clear hI
    by_cases hlt : k < p
    · have hlen := selT_length c k
      have HR2 := Lib.hid (HR.out.below hB HR.out.lt)
      have HQ2 := Lib.hid ((hB.cell (p := ⟨gp, 0, none⟩) (World.block_lt_of_cell? w _ HQ.out)).trans HQ.out)
      cases hcb : c k with
      | true =>
        have HS := Lib.hid (selT_yes c k hcb)
        have HCB := Lib.hid hcb
        clear hcb
        go_wp2_with (first
          | (go_at_call 56; (refine (hitFn_any p f k g gp true _ h hf HR2.out HQ2.out hlt ((HCD.out k hlt).trans HCB.out)).mono ?_); rintro e w1 ⟨rfl, hb1⟩; have HI1 := Lib.hid (HI.out.later hb1); have hB1 := hB.trans (hb1.mono hz); have hz1 := hB1.size)
          | (at_builtin; refine wpList_append_int rfl _ _ 27 rfl (w.heap.size) 3 Try.underlying27 info_int _ _ rfl HI1.out (k : Int) rfl (by omega) (by omega) ?_; intro v' w' hI' hg'; have hB' := HI1.out.below hB1 hz1 hg'; rw [HS.out] at hI'; have HI' := Lib.hid hI'; clear hI'))
        go_roundw
        case rel => exact ⟨k + 1, by omega, by go_num, HI'.out, hB'⟩
        case measure => simp [intOf]; omega
      | false =>
        have HS := Lib.hid (selT_no c k hcb)
        have HCB := Lib.hid hcb
        clear hcb
        go_wp2_with (first
          | (go_at_call 56; (refine (hitFn_any p f k g gp false _ h hf HR2.out HQ2.out hlt ((HCD.out k hlt).trans HCB.out)).mono ?_); rintro e w1 ⟨rfl, hb1⟩; have HI1 := Lib.hid (HI.out.later hb1); have hB1 := hB.trans (hb1.mono hz)))
        go_roundw
        case rel => exact ⟨k + 1, by omega, by go_num, by rw [← HS.out]; exact HI1.out, hB1⟩
        case measure => simp [intOf]; omega
    · obtain rfl : k = p := by omega
      go_wp2
      go_ret
      exact ⟨_, rfl, HI.out, hB⟩

end Go.Proofs.Ytincoaebdmikbaa
