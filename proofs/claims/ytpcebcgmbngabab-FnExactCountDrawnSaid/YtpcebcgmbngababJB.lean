/- Loops: even ones: both sides of IsEvenLoop. -/
import Derived.Test.YtpcebcgmbngababJA
namespace Go.Proofs.Ytpcebcgmbngabab
open Go.RowKit
set_option linter.unusedVariables false

/-- Is each letter interlaced with an even number of others? -/
def evenTo (ps : List (Nat × Nat)) (k : Nat) : Bool := (List.range k).all fun i => (selT (lacedP ps i) ps.length).length % 2 == 0

def evenP (ps : List (Nat × Nat)) : Bool := evenTo ps ps.length

theorem evenTo_succ (ps : List (Nat × Nat)) (k : Nat) : evenTo ps (k + 1) = (evenTo ps k && ((selT (lacedP ps k) ps.length).length % 2 == 0)) := by
  simp [evenTo, List.range_succ]

theorem evenP_no {ps : List (Nat × Nat)} {k : Nat} (hk : k < ps.length) (h : ¬ (selT (lacedP ps k) ps.length).length % 2 = 0) : evenP ps = false := by
  rw [Bool.eq_false_iff]
  intro e
  unfold evenP evenTo at e
  rw [List.all_eq_true] at e
  have := e k (List.mem_range.2 hk)
  exact h (by simpa using this)

theorem one_len (c : Nat → Bool) (n : Nat) : (oneT c n).length = (selT c n).length := by simp [oneT, selT]

set_option maxHeartbeats 2000000 in
set_option maxRecDepth 100000 in
theorem loEven_any (t : ByteArray) (ps : List (Nat × Nat)) (w : World) (h : LoopP t.data.toList ps) :
    Calls Try.prog 82 #[.string t] w fun e w' => e = .returned (.bool (evenP ps)) ∧ w = w' := by
  have hs := h.size
  have hfew := h.few
  have HLW := Lib.hid (fun k dk (hk : k < ps.length) (hdk : dk = 97 + k) W => loWith_any t ps k dk W h hk hdk)
  have HEV := Lib.hid (fun k => evenTo_succ ps k)
  have HNO := Lib.hid (fun k hk hc => evenP_no (ps := ps) (k := k) hk hc)
  have HE : Hid (evenP ps = evenTo ps ps.length) := Lib.hid rfl
  have HSZ := Lib.hid (fun k => show (txL (oneT (lacedP ps k) ps.length)).size = (selT (lacedP ps k) ps.length).length by rw [txL_size, one_len])
  have HSL := Lib.hid (fun k => selT_length (lacedP ps k) ps.length)
  have H0 : evenTo ps 0 = true := rfl
  obtain ⟨n, hn⟩ : ∃ n, ps.length = n := ⟨_, rfl⟩
  obtain ⟨m, hm⟩ : ∃ m, t.size = m := ⟨_, rfl⟩
  have HSL2 := Lib.hid (fun k => show (selT (lacedP ps k) ps.length).length ≤ n by rw [← hn]; exact selT_length _ _)
  rw [hn] at hs hfew HE
  rw [hm] at hs
  have hd : Int.tdiv (m : Int) 2 = (n : Int) := by rw [Int.tdiv_eq_ediv_of_nonneg (by omega)]; omega
  have hwn : IntKind.i64.wrap (n : Int) = (n : Int) := by rw [IntKind.wrap_i64]; omega
  have HN := Lib.hid hn
  clear hs h hn
  go_enter Try.func82, Try.ntmps82
  go_wp2
  go_loopw [3] (fun i wr => ∃ k : Nat, k ≤ n ∧ i = .int .i64 k ∧ evenTo ps k = true ∧ w = wr) (fun i _ => n - (intOf i).toNat)
  case atStart => exact ⟨0, by omega, rfl, H0, rfl⟩
  case round =>
    obtain ⟨k, hk, rfl, hev, rfl⟩ := hrel
    have HEVK := Lib.hid hev
    clear hev
    by_cases hlt : k < n
    · obtain ⟨d, hdk, h97, hw1, hw2⟩ := sign_of k (by omega)
      have HD := Lib.hid hdk
      obtain ⟨T, hT⟩ : ∃ T, txL (oneT (lacedP ps k) ps.length) = T := ⟨_, rfl⟩
      have hTs := HSZ.out k
      obtain ⟨s, hs⟩ : ∃ s, (selT (lacedP ps k) ps.length).length = s := ⟨_, rfl⟩
      have hs16 : s ≤ n := by have := HSL2.out k; omega
      rw [hT, hs] at hTs
      have HT := Lib.hid hT
      have HS := Lib.hid hs
      have htm : Int.tmod (s : Int) 2 = ((s % 2 : Nat) : Int) := by rw [Int.tmod_eq_emod_of_nonneg (by omega)]; omega
      obtain ⟨q, hq⟩ : ∃ q, s % 2 = q := ⟨_, rfl⟩
      rw [hq] at htm
      have hwq : IntKind.i64.wrap (q : Int) = (q : Int) := by rw [IntKind.wrap_i64]; omega
      have HQ := Lib.hid hq
      clear hdk hT hs hq
      by_cases h2 : q = 0
      · subst h2
        have HK1 := Lib.hid (show evenTo ps (k + 1) = true by rw [HEV.out, HEVK.out, HS.out, HQ.out]; rfl)
        go_wp2_with (first | (go_at_call 107; (with_reducible refine (HLW.out k d (by rw [HN.out]; exact hlt) HD.out _).mono ?_); rintro e w1 ⟨rfl, rfl⟩; rw [HT.out]))
        go_roundw
        case rel => exact ⟨k + 1, by omega, by go_num, HK1.out, by trivial⟩
        case measure => simp [intOf]; omega
      · have hne : ((q : Int) != 0) = true := bne_iff_ne.2 (by omega)
        have HBAD := Lib.hid (HNO.out k (by rw [HN.out]; exact hlt) (by rw [HS.out, HQ.out]; exact h2))
        go_wp2_with (first | (go_at_call 107; (with_reducible refine (HLW.out k d (by rw [HN.out]; exact hlt) HD.out _).mono ?_); rintro e w1 ⟨rfl, rfl⟩; rw [HT.out]))
        go_ret
        exact ⟨by rw [HBAD.out]; rfl, rfl⟩
    · obtain rfl : k = n := by omega
      go_wp2
      go_ret
      exact ⟨by rw [HE.out, HEVK.out]; rfl, rfl⟩

set_option maxHeartbeats 2000000 in
set_option maxRecDepth 100000 in
theorem areEven_any (a0 : Option Addr) (n cap : Nat) (ps : List (Nat × Nat)) (B T : Nat) (w : World) (h : PairsIn 96 w B T (.slice a0 n cap) (pI ps)) (hT : T ≤ w.heap.size) (h8 : ps.length ≤ 8) :
    Calls Try.prog 109 #[.slice a0 n cap] w fun e w' => e = .returned (.bool (evenP ps)) ∧ Below w.heap.size w w' := by
  obtain rfl := letters_len h
  have HL := Lib.hid h
  have HEV := Lib.hid (fun k => evenTo_succ ps k)
  have HNO := Lib.hid (fun k hk hc => evenP_no (ps := ps) (k := k) hk hc)
  have HE : Hid (evenP ps = evenTo ps ps.length) := Lib.hid rfl
  have HSL := Lib.hid (fun k => selT_length (lacedP ps k) ps.length)
  have H0 : evenTo ps 0 = true := rfl
  obtain ⟨n, hn⟩ : ∃ n, ps.length = n := ⟨_, rfl⟩
  have HSL2 := Lib.hid (fun k => show (selT (lacedP ps k) ps.length).length ≤ n by rw [← hn]; exact selT_length _ _)
  rw [hn] at HE h8 HL ⊢
  have HN := Lib.hid hn
  clear h hn
  go_enter Try.func109, Try.ntmps109
  go_wp2
  go_loopw [6] (fun i wr => ∃ k : Nat, k ≤ n ∧ i = .int .i64 k ∧ Hid (evenTo ps k = true) ∧ Below w.heap.size w wr) (fun i _ => n - (intOf i).toNat)
  case atStart => exact ⟨0, by omega, rfl, Lib.hid H0, Below.refl _ _⟩
  case round =>
    obtain ⟨k, hk, rfl, HEVK, hB⟩ := hrel
    have HB := Lib.hid hB
    have hz := hB.size
    clear hB
    by_cases hlt : k < n
    · obtain ⟨s, hs⟩ : ∃ s, (selT (lacedP ps k) ps.length).length = s := ⟨_, rfl⟩
      have hs16 : s ≤ n := by have := HSL2.out k; omega
      have HS := Lib.hid hs
      have htm : Int.tmod (s : Int) 2 = ((s % 2 : Nat) : Int) := by rw [Int.tmod_eq_emod_of_nonneg (by omega)]; omega
      obtain ⟨q, hq⟩ : ∃ q, s % 2 = q := ⟨_, rfl⟩
      rw [hq] at htm
      have hwq : IntKind.i64.wrap (q : Int) = (q : Int) := by rw [IntKind.wrap_i64]; omega
      have HQ := Lib.hid hq
      clear hs hq
      by_cases h2 : q = 0
      · subst h2
        have HK1 := Lib.hid (show evenTo ps (k + 1) = true by rw [HEV.out, HEVK.out, HS.out, HQ.out]; rfl)
        go_wp2_with (first | (go_at_call 122; (refine (withOne_any _ _ _ ps B T k _ (HL.out.keep (belowSame HB.out hT)) (by omega) (by rw [HN.out]; exact hlt) (by rw [HN.out]; exact h8)).mono ?_); rintro e w3 ⟨v3, rfl, hI3, hb3⟩; (obtain ⟨a3, c3, g3, rfl, _⟩ := hI3.view); (rw [HS.out]); (have HB3 := Lib.hid (HB.out.trans (hb3.mono hz))); clear hb3 hI3))
        go_roundw
        case rel => exact ⟨k + 1, by omega, by go_num, HK1, HB3.out⟩
        case measure => simp [intOf]; omega
      · have hne : ((q : Int) != 0) = true := bne_iff_ne.2 (by omega)
        have HBAD := Lib.hid (HNO.out k (by rw [HN.out]; exact hlt) (by rw [HS.out, HQ.out]; exact h2))
        go_wp2_with (first | (go_at_call 122; (refine (withOne_any _ _ _ ps B T k _ (HL.out.keep (belowSame HB.out hT)) (by omega) (by rw [HN.out]; exact hlt) (by rw [HN.out]; exact h8)).mono ?_); rintro e w3 ⟨v3, rfl, hI3, hb3⟩; (obtain ⟨a3, c3, g3, rfl, _⟩ := hI3.view); (rw [HS.out]); (have HB3 := Lib.hid (HB.out.trans (hb3.mono hz))); clear hb3 hI3))
        go_ret
        exact ⟨by rw [HBAD.out]; rfl, HB3.out⟩
    · obtain rfl : k = n := by omega
      go_wp2
      go_ret
      exact ⟨by rw [HE.out, HEVK.out]; rfl, HB.out⟩

set_option maxHeartbeats 1000000 in
theorem told_even (t : ByteArray) (ps : List (Nat × Nat)) (w : World) (ht : t.size ≤ 1048576) (h8 : ps.length ≤ 8) (hl : loopL t.data.toList = some ps) :
    Calls Try.prog 85 #[.string t, .func (.methodOf 71 "loop.example/g01324/impl.areEven") #[] #[]] w fun e w' => e = .returned (.tuple #[.bool (evenP ps), .bool true]) ∧ Below w.heap.size w w' := by
  have HL := Lib.hid hl
  clear hl
  go_enter Try.func85, Try.ntmps85
  go_wp2_with (first | (go_at_call 57; (with_reducible refine (loopOf_yes t ps _ ht HL.out).mono ?_); rintro e w1 ⟨a0, cap, rfl, hP, hb1⟩; (have hz1 := hb1.size); (have HP := Lib.hid hP); clear hP) | (go_at_call 109; (refine (areEven_any _ _ _ ps _ _ _ (HP.out.keep (belowSame (by go_grown) (Nat.le_refl _))) (by simp) h8).mono ?_); rintro e w2 ⟨rfl, hb2⟩))
  go_ret2
  exact ⟨rfl, Below.trans (Below.trans hb1 (by go_grown)) (hb2.mono (by simp; omega))⟩

end Go.Proofs.Ytpcebcgmbngabab
