/- How many threads meet: the program, and the law. -/
import Derived.Test.YtnldnjgnpdicnaaU9
namespace Go.Proofs.Ytnldnjgnpdicnaa
open Go.RowKit
set_option linter.unusedVariables false

set_option maxHeartbeats 1000000 in
theorem meetFn_any (a b : Int) (xs : List (Int × Int)) (k gs gl : Nat) (u : Value) (B T : Nat) (r : Bool) (w : World) (hL : PairsIn 83 w B T u xs) (hk : k < xs.length) (hn : xs.length ≤ 30) (s0 : w.cell? ⟨gs, 0, none⟩ = some (.int .i64 a)) (s1 : w.cell? ⟨gs, 1, none⟩ = some (.int .i64 b)) (hl : w.cell? ⟨gl, 0, none⟩ = some u) (hr : meetP (a, b) (xs.getD k (0, 0)) = r) :
    Calls Try.prog 118 #[.int .i64 k, .pointer (some ⟨gs, 0, none⟩), .pointer (some ⟨gl, 0, none⟩)] w fun e w' => e = .returned (.bool r) ∧ Below w.heap.size w w' := by
  obtain ⟨a1, c1, g1, rfl, ha1, hm, hx1, hy1⟩ := hL.pairs.view
  obtain rfl := ha1 (by omega)
  have e0 := hx1 k hk
  have e1 := hy1 k hk
  obtain ⟨x, y, hxy⟩ : ∃ x y, xs.getD k (0, 0) = (x, y) := ⟨_, _, rfl⟩
  rw [hxy] at e0 e1 hr
  simp only at e0 e1
  have HR := Lib.hid (show meetB a b x y = r from hr)
  have k1 : 0 ≤ (k : Int) := by omega
  have k2 : (k : Int) < (xs.length : Int) := by omega
  clear hL hx1 hy1 hxy hr ha1 hm
  go_enter Try.func118, Try.ntmps118
  go_wp2
  go_region_held3 (fun w' => w'.cell? ⟨gs, 0, none⟩ = some (.int .i64 a) ∧ w'.cell? ⟨gs, 1, none⟩ = some (.int .i64 b) ∧ w'.cell? ⟨gl, 0, none⟩ = some (.slice (some ⟨g1, 0, none⟩) xs.length c1) ∧ w'.cell? ⟨g1, k * 2, none⟩ = some (.int .i64 x) ∧ w'.cell? ⟨g1, k * 2 + 1, none⟩ = some (.int .i64 y)) (go_keep)
    (first | (go_at_call 119; (with_reducible refine (threadsMeet_any a b x y _).mono ?_); rintro e w1 ⟨rfl, hb⟩; rw [HR.out]; (have d0 := cellB hb (b := gs) (o := 0) (x := .int .i64 a) (by go_simp)); (have d1 := cellB hb (b := gs) (o := 1) (x := .int .i64 b) (by go_simp)); (have d2 := cellB hb (b := gl) (o := 0) (x := .slice (some ⟨g1, 0, none⟩) xs.length c1) (by go_simp)); (have d3 := cellB hb (b := g1) (o := k * 2) (x := .int .i64 x) (by go_simp)); (have d4 := cellB hb (b := g1) (o := k * 2 + 1) (x := .int .i64 y) (by go_simp)); (have hB : Below w.heap.size w w1 := by (refine Below.trans ?_ (hb.mono (by first | (simp; done) | omega | (simp; omega))); go_grown))))
  go_wp2
  go_ret
  exact ⟨rfl, by go_grown⟩

set_option maxHeartbeats 1000000 in
theorem where_meet (p : Nat) (a b : Int) (xs : List (Int × Int)) (gs gl : Nat) (u : Value) (B T : Nat) (c : Nat → Bool) (w : World) (h : p ≤ 30) (hp : p = xs.length) (hL : PairsIn 83 w B T u xs) (hT : T ≤ w.heap.size) (s0 : w.cell? ⟨gs, 0, none⟩ = some (.int .i64 a)) (s1 : w.cell? ⟨gs, 1, none⟩ = some (.int .i64 b)) (hl : w.cell? ⟨gl, 0, none⟩ = some u) (hcd : ∀ k, k < p → meetP (a, b) (xs.getD k (0, 0)) = c k) :
    Calls Try.prog 117 #[.int .i64 p, .func (.func 118) #[] #[.pointer (some ⟨gs, 0, none⟩), .pointer (some ⟨gl, 0, none⟩)]] w (GivesT w (selT c p)) := by
  have HCD := Lib.hid hcd
  have HL := Lib.hid hL
  have S0 := Lib.hid s0
  have S1 := Lib.hid s1
  have SL := Lib.hid hl
  have HP := Lib.hid hp
  clear hcd hL s0 s1 hl hp
  go_enter Try.func117, Try.ntmps117
  go_wp2
  go_loopw [5, 8] (fun u i wr => ∃ k : Nat, k ≤ p ∧ i = .int .i64 k ∧ Ints wr w.heap.size 3 u (selT c k) ∧ Below w.heap.size w wr) (fun _ i _ => p - (intOf i).toNat)
  case atStart => exact ⟨0, by omega, rfl, World.ownsRow_nil _ _ _ _, Below.refl _ _⟩
  case round =>
    obtain ⟨k, hk, rfl, hI, hB⟩ := hrel
    have HI := Lib.hid hI
    have hz := hB.size
    clear hI
    by_cases hlt : k < p
    · have hlen := selT_length c k
      have HL2 := Lib.hid (HL.out.keep (belowSame hB hT))
      have S02 := Lib.hid ((hB.cell (p := ⟨gs, 0, none⟩) (World.block_lt_of_cell? w _ S0.out)).trans S0.out)
      have S12 := Lib.hid ((hB.cell (p := ⟨gs, 1, none⟩) (World.block_lt_of_cell? w _ S1.out)).trans S1.out)
      have SL2 := Lib.hid ((hB.cell (p := ⟨gl, 0, none⟩) (World.block_lt_of_cell? w _ SL.out)).trans SL.out)
      cases hcb : c k with
      | true =>
        have HS := Lib.hid (selT_yes c k hcb)
        have HCB := Lib.hid hcb
        clear hcb
        go_wp2_with (first
          | (go_at_call 118; (refine (meetFn_any a b xs k gs gl u B T true _ HL2.out (by have := HP.out; omega) (by have := HP.out; omega) S02.out S12.out SL2.out ((HCD.out k hlt).trans HCB.out)).mono ?_); rintro e w1 ⟨rfl, hb1⟩; have HI1 := Lib.hid (HI.out.later hb1); have hB1 := hB.trans (hb1.mono hz); have hz1 := hB1.size)
          | (at_builtin; refine wpList_append_int rfl _ _ 33 rfl (w.heap.size) 3 Try.underlying33 info_int _ _ rfl HI1.out (k : Int) rfl (by omega) (by omega) ?_; intro v' w' hI' hg'; have hB' := HI1.out.below hB1 hz1 hg'; rw [HS.out] at hI'; have HI' := Lib.hid hI'; clear hI'))
        go_roundw
        case rel => exact ⟨k + 1, by omega, by go_num, HI'.out, hB'⟩
        case measure => simp [intOf]; omega
      | false =>
        have HS := Lib.hid (selT_no c k hcb)
        have HCB := Lib.hid hcb
        clear hcb
        go_wp2_with (first
          | (go_at_call 118; (refine (meetFn_any a b xs k gs gl u B T false _ HL2.out (by have := HP.out; omega) (by have := HP.out; omega) S02.out S12.out SL2.out ((HCD.out k hlt).trans HCB.out)).mono ?_); rintro e w1 ⟨rfl, hb1⟩; have HI1 := Lib.hid (HI.out.later hb1); have hB1 := hB.trans (hb1.mono hz)))
        go_roundw
        case rel => exact ⟨k + 1, by omega, by go_num, by rw [← HS.out]; exact HI1.out, hB1⟩
        case measure => simp [intOf]; omega
    · obtain rfl : k = p := by omega
      go_wp2
      go_ret
      exact ⟨_, rfl, HI.out, hB⟩

set_option maxHeartbeats 1000000 in
theorem indicesMeeting_any (u : Value) (xs : List (Int × Int)) (B T : Nat) (w : World) (h : PairsIn 83 w B T u xs) (hT : T ≤ w.heap.size) (a b : Int) (hn : xs.length ≤ 30) :
    Calls Try.prog 66 #[u, .agg #[.int .i64 a, .int .i64 b]] w (GivesT w (selT (fun k => meetP (a, b) (xs.getD k (0, 0))) xs.length)) := by
  have HB2 : Hid (Below w.heap.size w ((w.alloc (.cells #[u] 36)).alloc (.cells #[.int .i64 a, .int .i64 b] 83))) := Lib.hid (by go_grown)
  have HU2 := Lib.hid (h.keep (w' := ((w.alloc (.cells #[u] 36)).alloc (.cells #[.int .i64 a, .int .i64 b] 83))) (belowSame HB2.out hT))
  have d0 : ((w.alloc (.cells #[u] 36)).alloc (.cells #[.int .i64 a, .int .i64 b] 83)).cell? ⟨w.heap.size, 0, none⟩ = some u := by go_simp
  have d1 : ((w.alloc (.cells #[u] 36)).alloc (.cells #[.int .i64 a, .int .i64 b] 83)).cell? ⟨w.heap.size + 1, 0, none⟩ = some (.int .i64 a) := by go_simp
  have d2 : ((w.alloc (.cells #[u] 36)).alloc (.cells #[.int .i64 a, .int .i64 b] 83)).cell? ⟨w.heap.size + 1, 1, none⟩ = some (.int .i64 b) := by go_simp
  have D0 := Lib.hid d0
  have D1 := Lib.hid d1
  have D2 := Lib.hid d2
  obtain ⟨a1, c1, g1, rfl, _⟩ := h.pairs.view
  clear h d0 d1 d2
  go_enter Try.func66, Try.ntmps66
  go_wp2_with (first | (go_at_call 117; (refine (where_meet xs.length a b xs (w.heap.size + 1) w.heap.size _ B T (fun k => meetP (a, b) (xs.getD k (0, 0))) _ hn rfl HU2.out (by simp; omega) D1.out D2.out D0.out (fun _ _ => rfl)).mono ?_); rintro e w3 ⟨v, rfl, hI, hb3⟩))
  go_ret
  exact ⟨v, rfl, hI.mono (by first | (simp; done) | (simp; omega)), HB2.out.trans (hb3.mono (by first | (simp; done) | (simp; omega)))⟩

theorem cntM_le2 (c : Int × Int) (xs : List (Int × Int)) (hn : xs.length ≤ 30) : cntM c xs ≤ 30 := Nat.le_trans (cntM_le c xs) hn

theorem sum_take (f : Int × Int → Nat) (xs : List (Int × Int)) (k : Nat) (h : k < xs.length) : ((xs.take (k + 1)).map f).sum = ((xs.take k).map f).sum + f (xs.getD k (0, 0)) := by
  rw [List.take_succ_eq_append_getElem h, List.map_append, List.sum_append]
  simp [List.getD, List.getElem?_eq_getElem h]

theorem sum_le (f : Int × Int → Nat) (m : Nat) (hf : ∀ x, f x ≤ m) (xs : List (Int × Int)) : (xs.map f).sum ≤ xs.length * m := by
  induction xs with
  | nil => simp
  | cons x r ih =>
    have := hf x
    simp only [List.map_cons, List.sum_cons, List.length_cons, Nat.succ_mul]
    omega

end Go.Proofs.Ytnldnjgnpdicnaa
