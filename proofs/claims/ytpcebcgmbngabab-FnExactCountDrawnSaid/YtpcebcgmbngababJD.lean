/- Loops that can be drawn: letters interlaced with both of two; loops that are even apart. -/
import Derived.Test.YtpcebcgmbngababJB
import Derived.Test.YtpcebcgmbngababJW
namespace Go.Proofs.Ytpcebcgmbngabab
open Go.RowKit
set_option linter.unusedVariables false

def bothC (ps : List (Nat × Nat)) (x y k : Nat) : Bool := lacedP ps x k && lacedP ps y k

/-- Is an even number of letters interlaced with both? -/
def evP (ps : List (Nat × Nat)) (x y : Nat) : Bool := (selT (bothC ps x y) ps.length).length % 2 == 0

theorem evP_comm (ps : List (Nat × Nat)) (x y : Nat) : evP ps x y = evP ps y x := by
  unfold evP
  rw [show bothC ps x y = bothC ps y x from funext fun k => by unfold bothC; exact Bool.and_comm _ _]

theorem lacedP_comm (ps : List (Nat × Nat)) (x y : Nat) : lacedP ps x y = lacedP ps y x := by
  unfold lacedP crossB
  rw [decide_eq_decide]
  omega

theorem lacedP_self (ps : List (Nat × Nat)) (x : Nat) : lacedP ps x x = false := by
  unfold lacedP crossB
  exact decide_eq_false (by omega)

set_option maxHeartbeats 1000000 in
theorem bothFn_any (ps : List (Nat × Nat)) (x y k gl gi gj n cap B T : Nat) (a0 : Option Addr) (b : Bool) (w : World) (hL : PairsIn 96 w B T (.slice a0 n cap) (pI ps)) (hl : w.cell? ⟨gl, 0, none⟩ = some (.slice a0 n cap)) (hi : w.cell? ⟨gi, 0, none⟩ = some (.int .i64 x)) (hj : w.cell? ⟨gj, 0, none⟩ = some (.int .i64 y)) (hT : T ≤ w.heap.size) (hx : x < ps.length) (hy : y < ps.length) (hk : k < ps.length) (hb : bothC ps x y k = b) :
    Calls Try.prog 130 #[.int .i64 k, .pointer (some ⟨gl, 0, none⟩), .pointer (some ⟨gi, 0, none⟩), .pointer (some ⟨gj, 0, none⟩)] w fun e w' => e = .returned (.bool b) ∧ Below w.heap.size w w' := by
  have HL := Lib.hid hL
  have HA := Lib.hid (fun W (h : PairsIn 96 W B T (.slice a0 n cap) (pI ps)) => areInterlaced_any a0 n cap ps B T x k W h hx hk)
  have HB := Lib.hid (fun W (h : PairsIn 96 W B T (.slice a0 n cap) (pI ps)) => areInterlaced_any a0 n cap ps B T y k W h hy hk)
  unfold bothC at hb
  have HI := Lib.hid hi
  have HJ := Lib.hid hj
  have HLL := Lib.hid hl
  clear hL
  cases h1 : lacedP ps x k with
  | false =>
    rw [h1] at HA hb
    have HB2 := Lib.hid hb
    clear h1 hb
    go_enter Try.func130, Try.ntmps130
    go_wp2_with (first | (go_at_call 123; (refine (HA.out _ HL.out).mono ?_); rintro e w1 ⟨rfl, hb1⟩))
    go_ret
    exact ⟨by rw [← HB2.out]; rfl, hb1⟩
  | true =>
    rw [h1] at HA hb
    obtain ⟨c, hc⟩ : ∃ c, lacedP ps y k = c := ⟨_, rfl⟩
    rw [hc] at HB hb
    have HB2 := Lib.hid hb
    clear h1 hb hc
    go_enter Try.func130, Try.ntmps130
    go_wp2_with (first | (go_at_call 123; (refine (HA.out _ HL.out).mono ?_); rintro e w1 ⟨rfl, hb1⟩; (have HL1 := Lib.hid (HL.out.keep (belowSame hb1 hT))); (have cl1 := cellB hb1 HLL.out); (have cj1 := cellB hb1 HJ.out); (have ci1 := cellB hb1 HI.out); clear HA) | (go_at_call 123; (refine (HB.out _ HL1.out).mono ?_); rintro e w2 ⟨rfl, hb2⟩))
    go_ret
    exact ⟨by rw [← HB2.out]; rfl, hb1.trans (hb2.mono hb1.size)⟩

set_option maxHeartbeats 1000000 in
theorem where_both (p : Nat) (ps : List (Nat × Nat)) (x y gl gi gj n cap B T : Nat) (a0 : Option Addr) (c : Nat → Bool) (w : World) (h : p ≤ 8) (hp : p = ps.length) (hL : PairsIn 96 w B T (.slice a0 n cap) (pI ps)) (hT : T ≤ w.heap.size) (hl : w.cell? ⟨gl, 0, none⟩ = some (.slice a0 n cap)) (hi : w.cell? ⟨gi, 0, none⟩ = some (.int .i64 x)) (hj : w.cell? ⟨gj, 0, none⟩ = some (.int .i64 y)) (hx : x < ps.length) (hy : y < ps.length) (hcd : ∀ k, k < p → bothC ps x y k = c k) :
    Calls Try.prog 128 #[.int .i64 p, .func (.func 130) #[] #[.pointer (some ⟨gl, 0, none⟩), .pointer (some ⟨gi, 0, none⟩), .pointer (some ⟨gj, 0, none⟩)]] w (GivesT w (selT c p)) := by
  have HCD := Lib.hid hcd
  have HL := Lib.hid hL
  have SX := Lib.hid hi
  have SY := Lib.hid hj
  have SL := Lib.hid hl
  have HP := Lib.hid hp
  have HXX := Lib.hid (And.intro hx hy)
  clear hcd hL hl hi hj hp hx hy
  go_enter Try.func128, Try.ntmps128
  go_wp2
  go_loopw [5, 8] (fun u i wr => ∃ k : Nat, k ≤ p ∧ i = .int .i64 k ∧ Ints wr w.heap.size 3 u (selT c k) ∧ Below w.heap.size w wr) (fun _ i _ => p - (intOf i).toNat)
  case atStart => exact ⟨0, by omega, rfl, World.ownsRow_nil _ _ _ _, Below.refl _ _⟩
  case round =>
    obtain ⟨k, hk, rfl, hI, hB⟩ := hrel
    have HI := Lib.hid hI
    have hz := hB.size
    clear hI
    by_cases hlt : k < p
    · have hlen := selT_length c k
      have HL2 := Lib.hid (HL.out.keep (belowSame hB hT))
      have SX2 := Lib.hid ((hB.cell (p := ⟨gi, 0, none⟩) (World.block_lt_of_cell? w _ SX.out)).trans SX.out)
      have SY2 := Lib.hid ((hB.cell (p := ⟨gj, 0, none⟩) (World.block_lt_of_cell? w _ SY.out)).trans SY.out)
      have SL2 := Lib.hid ((hB.cell (p := ⟨gl, 0, none⟩) (World.block_lt_of_cell? w _ SL.out)).trans SL.out)
      cases hcb : c k with
      | true =>
        have HS := Lib.hid (selT_yes c k hcb)
        have HCB := Lib.hid hcb
        clear hcb
        go_wp2_with (first
          | (go_at_call 130; (refine (bothFn_any ps x y k gl gi gj n cap B T a0 true _ HL2.out SL2.out SX2.out SY2.out (by omega) HXX.out.1 HXX.out.2 (by have := HP.out; omega) ((HCD.out k hlt).trans HCB.out)).mono ?_); rintro e w1 ⟨rfl, hb1⟩; have HI1 := Lib.hid (HI.out.later hb1); have hB1 := hB.trans (hb1.mono hz); have hz1 := hB1.size)
          | (at_builtin; refine wpList_append_int rfl _ _ 39 rfl (w.heap.size) 3 Try.underlying39 info_int _ _ rfl HI1.out (k : Int) rfl (by omega) (by omega) ?_; intro v' w' hI' hg'; have hB' := HI1.out.below hB1 hz1 hg'; rw [HS.out] at hI'; have HI' := Lib.hid hI'; clear hI'))
        go_roundw
        case rel => exact ⟨k + 1, by omega, by go_num, HI'.out, hB'⟩
        case measure => simp [intOf]; omega
      | false =>
        have HS := Lib.hid (selT_no c k hcb)
        have HCB := Lib.hid hcb
        clear hcb
        go_wp2_with (first
          | (go_at_call 130; (refine (bothFn_any ps x y k gl gi gj n cap B T a0 false _ HL2.out SL2.out SX2.out SY2.out (by omega) HXX.out.1 HXX.out.2 (by have := HP.out; omega) ((HCD.out k hlt).trans HCB.out)).mono ?_); rintro e w1 ⟨rfl, hb1⟩; have HI1 := Lib.hid (HI.out.later hb1); have hB1 := hB.trans (hb1.mono hz)))
        go_roundw
        case rel => exact ⟨k + 1, by omega, by go_num, by rw [← HS.out]; exact HI1.out, hB1⟩
        case measure => simp [intOf]; omega
    · obtain rfl : k = p := by omega
      go_wp2
      go_ret
      exact ⟨_, rfl, HI.out, hB⟩

set_option maxHeartbeats 1000000 in
theorem isEvenWithBoth_any (a0 : Option Addr) (n cap : Nat) (ps : List (Nat × Nat)) (B T x y : Nat) (w : World) (h : PairsIn 96 w B T (.slice a0 n cap) (pI ps)) (hT : T ≤ w.heap.size) (hx : x < ps.length) (hy : y < ps.length) (h8 : ps.length ≤ 8) :
    Calls Try.prog 124 #[.slice a0 n cap, .int .i64 x, .int .i64 y] w fun e w' => e = .returned (.bool (evP ps x y)) ∧ Below w.heap.size w w' := by
  obtain rfl := letters_len h
  have HL := Lib.hid h
  have HSL := Lib.hid (selT_length (bothC ps x y) ps.length)
  have HEV : Hid (evP ps x y = ((selT (bothC ps x y) ps.length).length % 2 == 0)) := Lib.hid rfl
  obtain ⟨s, hs⟩ : ∃ s, (selT (bothC ps x y) ps.length).length = s := ⟨_, rfl⟩
  rw [hs] at HSL HEV
  have hs8 := HSL.out
  have HS := Lib.hid hs
  have htm : Int.tmod (s : Int) 2 = ((s % 2 : Nat) : Int) := by rw [Int.tmod_eq_emod_of_nonneg (by omega)]; omega
  obtain ⟨q, hq⟩ : ∃ q, s % 2 = q := ⟨_, rfl⟩
  rw [hq] at htm HEV
  have hwq : IntKind.i64.wrap (q : Int) = (q : Int) := by rw [IntKind.wrap_i64]; omega
  have HE2 := Lib.hid (show evP ps x y = ((q : Int) == 0) by
    rw [HEV.out]
    by_cases e : q = 0
    · subst e; rfl
    · rw [beq_eq_false_iff_ne.2 e, beq_eq_false_iff_ne.2 (by omega)])
  clear h hs hq
  go_enter Try.func124, Try.ntmps124
  go_wp2_with (first | (go_at_call 128; (refine (where_both ps.length ps x y w.heap.size (w.heap.size + 1) (w.heap.size + 1 + 1) ps.length cap B T a0 (bothC ps x y) _ h8 rfl (HL.out.keep (belowSame (by go_grown) hT)) (by simp; omega) (by go_simp) (by go_simp) (by go_simp) hx hy (fun k hk => rfl)).mono ?_); rintro e w3 ⟨v3, rfl, hI3, hb3⟩; (obtain ⟨a3, c3, g3, rfl, _⟩ := hI3.view); (rw [HS.out])))
  go_ret
  exact ⟨by rw [HE2.out]; rfl, Below.trans (by go_grown) (hb3.mono (by simp; omega))⟩

set_option maxHeartbeats 2000000 in
set_option maxRecDepth 100000 in
theorem loBoth_any (t : ByteArray) (ps : List (Nat × Nat)) (x y dx dy : Nat) (w : World) (h : LoopP t.data.toList ps) (hx : x < ps.length) (hy : y < ps.length) (hdx : dx = 97 + x) (hdy : dy = 97 + y) :
    Calls Try.prog 84 #[.string t, .int .u8 dx, .int .u8 dy] w fun e w' => e = .returned (.int .i64 ((selT (bothC ps x y) ps.length).length : Nat)) ∧ w = w' := by
  have hs := h.size
  have hfew := h.few
  have HLX := Lib.hid (fun k dk (hk : k < ps.length) (hdk : dk = 97 + k) W => loLaced_any t ps x k dx dk W h hx hk hdx hdk)
  have HLY := Lib.hid (fun k dk (hk : k < ps.length) (hdk : dk = 97 + k) W => loLaced_any t ps y k dy dk W h hy hk hdy hdk)
  have HBC := Lib.hid (fun k => show bothC ps x y k = (lacedP ps x k && lacedP ps y k) from rfl)
  obtain ⟨n, hn⟩ : ∃ n, ps.length = n := ⟨_, rfl⟩
  obtain ⟨m, hm⟩ : ∃ m, t.size = m := ⟨_, rfl⟩
  rw [hn] at hs hfew ⊢
  rw [hm] at hs
  have hd : Int.tdiv (m : Int) 2 = (n : Int) := by rw [Int.tdiv_eq_ediv_of_nonneg (by omega)]; omega
  have hwn : IntKind.i64.wrap (n : Int) = (n : Int) := by rw [IntKind.wrap_i64]; omega
  have HN := Lib.hid hn
  clear hs h hdx hdy hx hy hn
  obtain ⟨C, hC⟩ : ∃ C, bothC ps x y = C := ⟨_, rfl⟩
  obtain ⟨LX, hLX⟩ : ∃ C, lacedP ps x = C := ⟨_, rfl⟩
  obtain ⟨LY, hLY⟩ : ∃ C, lacedP ps y = C := ⟨_, rfl⟩
  rw [hC, hLX, hLY] at HBC
  rw [hLX] at HLX
  rw [hLY] at HLY
  rw [hC]
  clear hC hLX hLY
  go_enter Try.func84, Try.ntmps84
  go_wp2
  go_loopw [7, 8] (fun o i wr => ∃ k : Nat, k ≤ n ∧ i = .int .i64 k ∧ o = .int .i64 ((selT C k).length : Nat) ∧ w = wr) (fun _ i _ => n - (intOf i).toNat)
  case atStart => exact ⟨0, by omega, rfl, rfl, rfl⟩
  case round =>
    obtain ⟨k, hk, rfl, rfl, rfl⟩ := hrel
    by_cases hlt : k < n
    · obtain ⟨d, hdk, h97, hw1, hw2⟩ := sign_of k (by omega)
      have HD := Lib.hid hdk
      have hbc := HBC.out k
      have hsl := selT_length C k
      have hyes := selT_yes C k
      have hno := selT_no C k
      have hwk : IntKind.i64.wrap ((k : Int) + 1) = (k : Int) + 1 := by rw [IntKind.wrap_i64]; omega
      obtain ⟨s, hs⟩ : ∃ s, (selT C k).length = s := ⟨_, rfl⟩
      have hws : IntKind.i64.wrap ((s : Int) + 1) = (s : Int) + 1 := by rw [IntKind.wrap_i64]; omega
      rw [hs]
      cases h1 : LX k with
      | false =>
        have HN1 := Lib.hid (show (selT C (k + 1)).length = s by rw [← hno (by rw [hbc, h1]; rfl)]; exact hs)
        have H1 := Lib.hid h1
        clear hdk hbc hsl hyes hno hs h1
        go_wp2_with (first | (go_at_call 83; (with_reducible refine (HLX.out k d (by rw [HN.out]; exact hlt) HD.out _).mono ?_); rintro e w1 ⟨rfl, rfl⟩; rw [H1.out]))
        go_roundw
        case rel => exact ⟨k + 1, by omega, by go_num, by rw [HN1.out], by trivial⟩
        case measure => simp [intOf]; omega
      | true =>
        cases h2 : LY k with
        | false =>
          have HN1 := Lib.hid (show (selT C (k + 1)).length = s by rw [← hno (by rw [hbc, h1, h2]; rfl)]; exact hs)
          have H1 := Lib.hid h1
          have H2 := Lib.hid h2
          clear hdk hbc hsl hyes hno hs h1 h2
          go_wp2_with (first | (go_at_call 83; (with_reducible refine (HLX.out k d (by rw [HN.out]; exact hlt) HD.out _).mono ?_); rintro e w1 ⟨rfl, rfl⟩; rw [H1.out]; clear HLX) | (go_at_call 83; (with_reducible refine (HLY.out k d (by rw [HN.out]; exact hlt) HD.out _).mono ?_); rintro e w1 ⟨rfl, rfl⟩; rw [H2.out]))
          go_roundw
          case rel => exact ⟨k + 1, by omega, by go_num, by rw [HN1.out], by trivial⟩
          case measure => simp [intOf]; omega
        | true =>
          have HN1 := Lib.hid (show (selT C (k + 1)).length = s + 1 by rw [← hyes (by rw [hbc, h1, h2]; rfl), List.length_append, hs]; rfl)
          have H1 := Lib.hid h1
          have H2 := Lib.hid h2
          clear hdk hbc hsl hyes hno hs h1 h2
          go_wp2_with (first | (go_at_call 83; (with_reducible refine (HLX.out k d (by rw [HN.out]; exact hlt) HD.out _).mono ?_); rintro e w1 ⟨rfl, rfl⟩; rw [H1.out]; clear HLX) | (go_at_call 83; (with_reducible refine (HLY.out k d (by rw [HN.out]; exact hlt) HD.out _).mono ?_); rintro e w1 ⟨rfl, rfl⟩; rw [H2.out]))
          go_roundw
          case rel => exact ⟨k + 1, by omega, by go_num, by rw [HN1.out]; go_num, by trivial⟩
          case measure => simp [intOf]; omega
    · obtain rfl : k = n := by omega
      go_wp2
      go_ret
      exact ⟨rfl, rfl⟩

end Go.Proofs.Ytpcebcgmbngabab
