/- Loops: curls: both sides of CurlsOf. -/
import Derived.Test.YtpcebcgmbngabaaJB
namespace Go.Proofs.Ytpcebcgmbngabaa
open Go.RowKit
set_option linter.unusedVariables false

/-- Are the two signs of a letter beside each other, around? -/
def curlP (ps : List (Nat × Nat)) (k : Nat) : Bool := decide ((ps.getD k (0, 0)).2 - (ps.getD k (0, 0)).1 = 1 ∨ ((ps.getD k (0, 0)).1 = 0 ∧ (ps.getD k (0, 0)).2 = 2 * ps.length - 1))

set_option maxHeartbeats 1000000 in
theorem curlFn_any (t : ByteArray) (ps : List (Nat × Nat)) (k gl n cap B T : Nat) (a0 : Option Addr) (b : Bool) (w : World) (hL : PairsIn 64 w B T (.slice a0 n cap) (pI ps)) (hl : w.cell? ⟨gl, 0, none⟩ = some (.slice a0 n cap)) (hl1 : w.cell? ⟨gl, 1, none⟩ = some (.string t)) (hts : t.size = 2 * ps.length) (hlt : ∀ k, k < ps.length → (ps.getD k (0, 0)).1 < (ps.getD k (0, 0)).2 ∧ (ps.getD k (0, 0)).2 < t.size) (h8 : ps.length ≤ 8) (hk : k < ps.length) (hb : curlP ps k = b) :
    Calls Try.prog 80 #[.int .i64 k, .pointer (some ⟨gl, 0, none⟩)] w fun e w' => e = .returned (.bool b) ∧ Below w.heap.size w w' := by
  obtain ⟨g, rfl, rfl⟩ := letters_form hL (by omega)
  obtain ⟨c0, c1⟩ := letters_cells hL k hk
  obtain ⟨l1, l2⟩ := hlt k hk
  obtain ⟨x, hx⟩ : ∃ x, (ps.getD k (0, 0)).1 = x := ⟨_, rfl⟩
  obtain ⟨y, hy⟩ : ∃ y, (ps.getD k (0, 0)).2 = y := ⟨_, rfl⟩
  rw [hx] at c0 l1
  rw [hy] at c1 l1 l2
  have hb2 : decide (y - x = 1 ∨ (x = 0 ∧ y = 2 * ps.length - 1)) = b := by rw [← hb]; unfold curlP; rw [hx, hy]
  have e1 : (y : Int) - (x : Int) = ((y - x : Nat) : Int) := by omega
  obtain ⟨d, hd⟩ : ∃ d, y - x = d := ⟨_, rfl⟩
  rw [hd] at e1 hb2
  have e2 : IntKind.i64.wrap (d : Int) = (d : Int) := by rw [IntKind.wrap_i64]; omega
  obtain ⟨m, hm⟩ : ∃ m, t.size = m := ⟨_, rfl⟩
  rw [hm] at hts l2
  have e3 : (m : Int) - 1 = ((m - 1 : Nat) : Int) := by omega
  obtain ⟨q, hq⟩ : ∃ q, m - 1 = q := ⟨_, rfl⟩
  rw [hq] at e3
  have e4 : IntKind.i64.wrap (q : Int) = (q : Int) := by rw [IntKind.wrap_i64]; omega
  have k0 : 0 ≤ (k : Int) := by omega
  have k1 : (k : Int) < (ps.length : Int) := by omega
  obtain ⟨n, hn⟩ : ∃ n, ps.length = n := ⟨_, rfl⟩
  rw [hn] at *
  by_cases h1 : d = 1
  · have HB := Lib.hid (show b = true from hb2.symm.trans (decide_eq_true (.inl h1)))
    have f1 : ((d : Int) == 1) = true := by simp [h1]
    clear hL hb hb2 hd hq hx hy hn hts hlt l2
    go_enter Try.func80, Try.ntmps80
    go_wp2
    go_quiet (fail)
    go_wp2
    go_ret
    exact ⟨by rw [HB.out]; first | rfl | simp, by first | exact bdn (Below.refl _ _) _ | go_grown⟩
  · have f1 : ((d : Int) == 1) = false := beq_eq_false_iff_ne.2 (by omega)
    by_cases h2 : d = q
    · have HB := Lib.hid (show b = true from hb2.symm.trans (decide_eq_true (.inr (by omega))))
      have f2 : ((d : Int) == (q : Int)) = true := by simp [h2]
      clear hL hb hb2 hd hq hx hy hn hts hlt l2
      go_enter Try.func80, Try.ntmps80
      go_wp2
      go_quiet (fail)
      go_wp2
      go_ret
      exact ⟨by rw [HB.out]; first | rfl | simp [h2], by first | exact bdn (Below.refl _ _) _ | go_grown⟩
    · have HB := Lib.hid (show b = false from hb2.symm.trans (decide_eq_false (by omega)))
      have f2 : ((d : Int) == (q : Int)) = false := beq_eq_false_iff_ne.2 (by omega)
      clear hL hb hb2 hd hq hx hy hn hts hlt l2
      go_enter Try.func80, Try.ntmps80
      go_wp2
      go_quiet (fail)
      go_wp2
      go_ret
      exact ⟨by rw [HB.out]; first | rfl | simp [h1, h2], by first | exact bdn (Below.refl _ _) _ | go_grown⟩

set_option maxHeartbeats 1000000 in
theorem where_curl (p : Nat) (t : ByteArray) (ps : List (Nat × Nat)) (gl n cap B T : Nat) (a0 : Option Addr) (c : Nat → Bool) (w : World) (h : p ≤ 8) (hp : p = ps.length) (hL : PairsIn 64 w B T (.slice a0 n cap) (pI ps)) (hT : T ≤ w.heap.size) (hl : w.cell? ⟨gl, 0, none⟩ = some (.slice a0 n cap)) (hl1 : w.cell? ⟨gl, 1, none⟩ = some (.string t)) (hts : t.size = 2 * ps.length) (hlt : ∀ k, k < ps.length → (ps.getD k (0, 0)).1 < (ps.getD k (0, 0)).2 ∧ (ps.getD k (0, 0)).2 < t.size) (hcd : ∀ k, k < p → curlP ps k = c k) :
    Calls Try.prog 71 #[.int .i64 p, .func (.func 80) #[] #[.pointer (some ⟨gl, 0, none⟩)]] w (GivesT w (selT c p)) := by
  have HCD := Lib.hid hcd
  have HL := Lib.hid hL
  have SX := Lib.hid hl1
  have SL := Lib.hid hl
  have HP := Lib.hid hp
  have HXX := Lib.hid (And.intro hts hlt)
  clear hcd hL hl hl1 hp hts hlt
  go_enter Try.func71, Try.ntmps71
  go_wp2
  go_loopw [5, 8] (fun u i wr => ∃ k : Nat, k ≤ p ∧ i = .int .i64 k ∧ Ints wr w.heap.size 3 u (selT c k) ∧ Below w.heap.size w wr) (fun _ i _ => p - (intOf i).toNat)
  case atStart => exact ⟨0, by omega, rfl, World.ownsRow_nil _ _ _ _, Below.refl _ _⟩
  case round =>
    obtain ⟨k, hk, rfl, hI, hB⟩ := hrel
    have HI := Lib.hid hI
    have hz := hB.size
    clear hI
    by_cases hlt : k < p
    · have hlen := selT_length c k
      have HL2 := Lib.hid (HL.out.keep (belowSame hB hT))
      have SX2 := Lib.hid ((hB.cell (p := ⟨gl, 1, none⟩) (World.block_lt_of_cell? w _ SX.out)).trans SX.out)
      have SL2 := Lib.hid ((hB.cell (p := ⟨gl, 0, none⟩) (World.block_lt_of_cell? w _ SL.out)).trans SL.out)
      cases hcb : c k with
      | true =>
        have HS := Lib.hid (selT_yes c k hcb)
        have HCB := Lib.hid hcb
        clear hcb
        go_wp2_with (first
          | (go_at_call 80; (refine (curlFn_any t ps k gl n cap B T a0 true _ HL2.out SL2.out SX2.out HXX.out.1 HXX.out.2 (by have := HP.out; omega) (by have := HP.out; omega) ((HCD.out k hlt).trans HCB.out)).mono ?_); rintro e w1 ⟨rfl, hb1⟩; have HI1 := Lib.hid (HI.out.later hb1); have hB1 := hB.trans (hb1.mono hz); have hz1 := hB1.size)
          | (at_builtin; refine wpList_append_int rfl _ _ 49 rfl (w.heap.size) 3 Try.underlying49 info_int _ _ rfl HI1.out (k : Int) rfl (by omega) (by omega) ?_; intro v' w' hI' hg'; have hB' := HI1.out.below hB1 hz1 hg'; rw [HS.out] at hI'; have HI' := Lib.hid hI'; clear hI'))
        go_roundw
        case rel => exact ⟨k + 1, by omega, by go_num, HI'.out, hB'⟩
        case measure => simp [intOf]; omega
      | false =>
        have HS := Lib.hid (selT_no c k hcb)
        have HCB := Lib.hid hcb
        clear hcb
        go_wp2_with (first
          | (go_at_call 80; (refine (curlFn_any t ps k gl n cap B T a0 false _ HL2.out SL2.out SX2.out HXX.out.1 HXX.out.2 (by have := HP.out; omega) (by have := HP.out; omega) ((HCD.out k hlt).trans HCB.out)).mono ?_); rintro e w1 ⟨rfl, hb1⟩; have HI1 := Lib.hid (HI.out.later hb1); have hB1 := hB.trans (hb1.mono hz)))
        go_roundw
        case rel => exact ⟨k + 1, by omega, by go_num, by rw [← HS.out]; exact HI1.out, hB1⟩
        case measure => simp [intOf]; omega
    · obtain rfl : k = p := by omega
      go_wp2
      go_ret
      exact ⟨_, rfl, HI.out, hB⟩

set_option maxHeartbeats 1000000 in
theorem curls_any (t : ByteArray) (a0 : Option Addr) (n cap : Nat) (ps : List (Nat × Nat)) (B T : Nat) (w : World) (h : PairsIn 64 w B T (.slice a0 n cap) (pI ps)) (hT : T ≤ w.heap.size) (h8 : ps.length ≤ 8) (hts : t.size = 2 * ps.length) (hlt : ∀ k, k < ps.length → (ps.getD k (0, 0)).1 < (ps.getD k (0, 0)).2 ∧ (ps.getD k (0, 0)).2 < t.size) :
    Calls Try.prog 66 #[.agg #[.slice a0 n cap, .string t]] w fun e w' => e = .returned (.string (txL (oneT (curlP ps) ps.length))) ∧ Below w.heap.size w w' := by
  obtain rfl := letters_len h
  have HL := Lib.hid h
  have HT := Lib.hid (oneT_sel (curlP ps) ps.length)
  have HSL := Lib.hid (selT_length (curlP ps) ps.length)
  have HXX := Lib.hid (And.intro hts hlt)
  clear h hts hlt
  go_enter Try.func66, Try.ntmps66
  go_wp2_with (first | (go_at_call 71; (refine (where_curl ps.length t ps w.heap.size ps.length cap B T a0 (curlP ps) _ h8 rfl (HL.out.keep (belowSame (by go_grown) hT)) (by simp; omega) (by go_simp) (by go_simp) HXX.out.1 HXX.out.2 (fun k hk => rfl)).mono ?_); rintro e w3 ⟨v3, rfl, hI3, hb3⟩; (have hz3 := hb3.size); (rw [World.size_alloc] at hz3)) | (go_at_call 48; (refine (textOfLetters_any _ _ _ _ _ hI3.inn (Nat.le_refl _) (by have := HSL.out; omega) (selT_bd _ _ (by omega))).mono ?_); rintro e w4 ⟨rfl, hb4⟩; rw [HT.out]))
  go_ret
  exact ⟨rfl, Below.trans (Below.trans (by go_grown) (hb3.mono (by first | (simp; done) | omega | (simp; omega)))) (hb4.mono (by omega))⟩

set_option maxHeartbeats 2000000 in
set_option maxRecDepth 100000 in
theorem sCurlsOf_yes (t : ByteArray) (ps : List (Nat × Nat)) (w : World) (ht : t.size ≤ 1048576) (h : LoopP t.data.toList ps) (hg : goodL t.data.toList = true) :
    Calls Try.prog 35 #[.string t] w fun e w' => e = .returned (.tuple #[.string (txL (oneT (curlP ps) ps.length)), .bool true]) ∧ Below w.heap.size w w' := by
  have HG := Lib.hid hg
  have hs := h.size
  have hfew := h.few
  have HPL := Lib.hid (fun k d (hk : k < ps.length) (hd : d = 97 + k) W => show Calls Try.prog 65 #[.string t, .int .u8 d] W fun e w' => e = .returned (.tuple #[.int .i64 ((ps.getD k (0, 0)).1 : Int), .int .i64 ((ps.getD k (0, 0)).2 : Int)]) ∧ W = w' by
    have h1 := loPlaces_any t (lt8 k) W ht
    rw [h.places hk, lt8_nat k (by omega), ← hd] at h1
    exact h1)
  have HLT := Lib.hid (fun k (hk : k < ps.length) => show (ps.getD k (0, 0)).1 < (ps.getD k (0, 0)).2 ∧ (ps.getD k (0, 0)).2 < 2 * ps.length by have h1 := h.lt k hk; have h2 := h.len; omega)
  obtain ⟨n, hn⟩ : ∃ n, ps.length = n := ⟨_, rfl⟩
  obtain ⟨m, hm⟩ : ∃ m, t.size = m := ⟨_, rfl⟩
  rw [hn] at hs hfew ⊢
  rw [hm] at hs
  have hd : Int.tdiv (m : Int) 2 = (n : Int) := by rw [Int.tdiv_eq_ediv_of_nonneg (by omega)]; omega
  have hwn : IntKind.i64.wrap (n : Int) = (n : Int) := by rw [IntKind.wrap_i64]; omega
  have HN := Lib.hid hn
  have HCU : Hid (∀ k, curlP ps k = decide ((ps.getD k (0, 0)).2 - (ps.getD k (0, 0)).1 = 1 ∨ ((ps.getD k (0, 0)).1 = 0 ∧ (ps.getD k (0, 0)).2 = 2 * n - 1))) := Lib.hid (fun k => by unfold curlP; rw [hn])
  clear hg h hn
  obtain ⟨C, hC⟩ : ∃ C, curlP ps = C := ⟨_, rfl⟩
  rw [hC] at HCU ⊢
  have HSS := Lib.hid hs
  clear hC hs
  go_enter Try.func35, Try.ntmps35
  go_wp2_with (first | (go_at_call 39; (with_reducible refine (loGood_any t _ ht).mono ?_); rintro e w1 ⟨rfl, hb1⟩; rw [HG.out]))
  have hw1 := hb1
  clear hb1
  go_loopw [4, 5] (fun o i wr => ∃ k : Nat, k ≤ n ∧ i = .int .i64 k ∧ o = .string (txL (oneT C k)) ∧ Below w.heap.size w wr) (fun _ i _ => n - (intOf i).toNat)
  case atStart => exact ⟨0, by omega, rfl, rfl, hw1⟩
  case round =>
    obtain ⟨k, hk, rfl, rfl, hB⟩ := hrel
    have HB := Lib.hid hB
    clear hB hw1
    by_cases hlt : k < n
    · obtain ⟨d, hdk, h97, hw1, hw2⟩ := sign_of k (by omega)
      have HD := Lib.hid hdk
      have hab := abc_one ⟨k, by omega⟩
      simp only at hab
      have hol := oneT_length C k
      have hsz := txL_size (oneT C k)
      obtain ⟨O, hO⟩ : ∃ O, txL (oneT C k) = O := ⟨_, rfl⟩
      rw [hO] at hsz ⊢
      have hadd := txAdd O ((⟨#[97, 98, 99, 100, 101, 102, 103, 104, 105, 106, 107, 108, 109, 110, 111, 112]⟩ : ByteArray).extract k (k + 1)) (by rw [hab, txL_size]; simp; omega)
      have HOT := Lib.hid (show O ++ (⟨#[97, 98, 99, 100, 101, 102, 103, 104, 105, 106, 107, 108, 109, 110, 111, 112]⟩ : ByteArray).extract k (k + 1) = txL (oneT C k ++ [lt8 k]) by rw [hab, ← hO, txL_append])
      have HO := Lib.hid hO
      have hwk : IntKind.i64.wrap ((k : Int) + 1) = (k : Int) + 1 := by rw [IntKind.wrap_i64]; omega
      have hcu := HCU.out k
      obtain ⟨l1, l2⟩ := HLT.out k (by rw [HN.out]; exact hlt)
      rw [HN.out] at l2
      have HPK := Lib.hid (fun W => HPL.out k d (by rw [HN.out]; exact hlt) HD.out W)
      obtain ⟨x, hx⟩ : ∃ x, (ps.getD k (0, 0)).1 = x := ⟨_, rfl⟩
      obtain ⟨y, hy⟩ : ∃ y, (ps.getD k (0, 0)).2 = y := ⟨_, rfl⟩
      rw [hx, hy] at HPK hcu l1
      rw [hy] at l2
      have e1 : (y : Int) - (x : Int) = ((y - x : Nat) : Int) := by omega
      obtain ⟨q, hq⟩ : ∃ q, y - x = q := ⟨_, rfl⟩
      rw [hq] at e1 hcu
      have e2 : IntKind.i64.wrap (q : Int) = (q : Int) := by rw [IntKind.wrap_i64]; omega
      have hs := HSS.out
      have e3 : (m : Int) - 1 = ((m - 1 : Nat) : Int) := by omega
      obtain ⟨z, hz⟩ : ∃ z, m - 1 = z := ⟨_, rfl⟩
      rw [hz] at e3
      have e4 : IntKind.i64.wrap (z : Int) = (z : Int) := by rw [IntKind.wrap_i64]; omega
      by_cases hcc : q = 1 ∨ (x = 0 ∧ y = 2 * n - 1)
      · have hc : C k = true := by rw [hcu]; simpa using hcc
        have HC := Lib.hid hc
        rw [HOT.out, ← oneT_yes hc] at hadd
        have hcz : (q : Int) = 1 ∨ ((x : Int) = 0 ∧ (y : Int) = (z : Int)) := by omega
        clear hab hdk hO hsz hol hc hcu hx hy hq hz hcc hs
        by_cases g1 : (q : Int) = 1
        · have f1 : ((q : Int) == 1) = true := by simp [g1]
          clear hcz
          go_wp2_with (first | (go_at_call 65; (with_reducible refine (HPK.out _).mono ?_); rintro e w1 ⟨rfl, rfl⟩))
          go_roundw
          case rel => exact ⟨k + 1, by omega, by go_num, by first | rfl | (rw [oneT_yes HC.out, ← HOT.out]), HB.out⟩
          case measure => simp [intOf]; omega
        · have f1 : ((q : Int) == 1) = false := beq_eq_false_iff_ne.2 g1
          have f2 : ((x : Int) == 0) = true := beq_iff_eq.2 (by omega)
          have f3 : ((y : Int) == (z : Int)) = true := beq_iff_eq.2 (by omega)
          clear hcz g1
          go_wp2_with (first | (go_at_call 65; (with_reducible refine (HPK.out _).mono ?_); rintro e w1 ⟨rfl, rfl⟩))
          go_roundw
          case rel => exact ⟨k + 1, by omega, by go_num, by first | rfl | (rw [oneT_yes HC.out, ← HOT.out]), HB.out⟩
          case measure => simp [intOf]; omega
      · have hc : C k = false := by rw [hcu]; simpa using hcc
        have HC := Lib.hid hc
        have f1 : ((q : Int) == 1) = false := beq_eq_false_iff_ne.2 (by omega)
        by_cases h3 : (x : Int) = 0
        · have f2 : ((x : Int) == 0) = true := beq_iff_eq.2 h3
          have f3 : ((y : Int) == (z : Int)) = false := beq_eq_false_iff_ne.2 (by omega)
          clear hab hdk hO hsz hol hc hcu hx hy hq hz hcc hadd hs h3
          go_wp2_with (first | (go_at_call 65; (with_reducible refine (HPK.out _).mono ?_); rintro e w1 ⟨rfl, rfl⟩))
          go_roundw
          case rel => exact ⟨k + 1, by omega, by go_num, by rw [oneT_no HC.out, HO.out], HB.out⟩
          case measure => simp [intOf]; omega
        · have f2 : ((x : Int) == 0) = false := beq_eq_false_iff_ne.2 h3
          clear hab hdk hO hsz hol hc hcu hx hy hq hz hcc hadd hs h3
          go_wp2_with (first | (go_at_call 65; (with_reducible refine (HPK.out _).mono ?_); rintro e w1 ⟨rfl, rfl⟩))
          go_roundw
          case rel => exact ⟨k + 1, by omega, by go_num, by rw [oneT_no HC.out, HO.out], HB.out⟩
          case measure => simp [intOf]; omega
    · obtain rfl : k = n := by omega
      go_wp2
      go_ret2
      exact ⟨rfl, HB.out⟩

set_option maxHeartbeats 1000000 in
theorem core_CurlsOf (t : ByteArray) (x : ByteArray) (y : Bool) (w : World) (ht0 : t.size ≤ 1048576)
    (hs : ∀ W : World, Calls Try.prog 35 #[.string t] W fun e w' => e = .returned (.tuple #[.string x, .bool y]) ∧ Below W.heap.size W w')
    (hi : ∀ W : World, Calls Try.prog 36 #[.string t] W fun e w' => e = .returned (.tuple #[.string x, .bool y]) ∧ Below W.heap.size W w') :
    Calls Try.prog 13 #[.string t] w fun e w' => e = .returned (.bool true) ∧ Below w.heap.size w w' := by
  have HS := Lib.hid hs
  have HI := Lib.hid hi
  have h0 : ¬ 1048576 < (t.size : Int) := by omega
  clear hs hi ht0
  go_enter Try.func13, Try.ntmps13
  go_wp2_with (first | (go_at_call 35; (with_reducible refine (HS.out _).mono ?_); rintro e w1 ⟨rfl, hb1⟩) | (go_at_call 36; (with_reducible refine (HI.out _).mono ?_); rintro e w2 ⟨rfl, hb2⟩))
  go_ret
  exact ⟨rfl, hb1.trans (hb2.mono hb1.size)⟩

set_option maxHeartbeats 400000 in
theorem long0_CurlsOf (t : ByteArray) (w : World)  (ht : 1048576 < (t.size : Int)) :
    Calls Try.prog 13 #[.string t] w fun e w' => e = .returned (.bool true) ∧ Below w.heap.size w w' := by
  go_enter Try.func13, Try.ntmps13
  go_wp2
  go_ret
  exact ⟨rfl, Below.refl _ _⟩

set_option maxHeartbeats 1000000 in
theorem told_curls (t : ByteArray) (ps : List (Nat × Nat)) (w : World) (ht : t.size ≤ 1048576) (h8 : ps.length ≤ 8) (hl : loopL t.data.toList = some ps) :
    Calls Try.prog 61 #[.string t, .func (.func 66) #[] #[]] w fun e w' => e = .returned (.tuple #[.string (txL (oneT (curlP ps) ps.length)), .bool true]) ∧ Below w.heap.size w w' := by
  have HL := Lib.hid hl
  have HLP := Lib.hid (loopL_some hl).1
  have HTS := Lib.hid (show t.size = 2 * ps.length ∧ ∀ k, k < ps.length → (ps.getD k (0, 0)).1 < (ps.getD k (0, 0)).2 ∧ (ps.getD k (0, 0)).2 < t.size from ⟨HLP.out.size, fun k hk => by have h1 := HLP.out.lt k hk; have h2 := HLP.out.len; have h3 := HLP.out.size; omega⟩)
  clear hl
  go_enter Try.func61, Try.ntmps61
  go_wp2_with (first | (go_at_call 40; (with_reducible refine (loopOf_yes t ps _ ht HL.out).mono ?_); rintro e w1 ⟨a0, cap, rfl, hP, hb1⟩; (have hz1 := hb1.size); (have HP := Lib.hid hP); clear hP) | (go_at_call 66; (refine (curls_any t _ _ _ ps _ _ _ (HP.out.keep (belowSame (by go_grown) (Nat.le_refl _))) (by simp) h8 HTS.out.1 HTS.out.2).mono ?_); rintro e w2 ⟨rfl, hb2⟩))
  go_ret2
  exact ⟨rfl, Below.trans (Below.trans hb1 (by go_grown)) (hb2.mono (by simp; omega))⟩

set_option maxHeartbeats 400000 in
theorem iCurlsOf_yes (t : ByteArray) (ps : List (Nat × Nat)) (w : World) (ht : t.size ≤ 1048576) (h8 : ps.length ≤ 8) (hl : loopL t.data.toList = some ps) :
    Calls Try.prog 36 #[.string t] w fun e w' => e = .returned (.tuple #[.string (txL (oneT (curlP ps) ps.length)), .bool true]) ∧ Below w.heap.size w w' := by
  go_enter Try.func36, Try.ntmps36
  go_wp2_with (first | (go_at_call 61; (with_reducible refine (told_curls t ps _ ht h8 hl).mono ?_); rintro e w1 ⟨rfl, hb1⟩))
  go_ret2
  exact ⟨rfl, hb1⟩

set_option maxHeartbeats 400000 in
theorem iCurlsOf_no (t : ByteArray) (w : World) (ht : t.size ≤ 1048576) (hl : loopL t.data.toList = none) :
    Calls Try.prog 36 #[.string t] w fun e w' => e = .returned (.tuple #[.string ⟨#[]⟩, .bool false]) ∧ Below w.heap.size w w' := by
  go_enter Try.func36, Try.ntmps36
  go_wp2_with (first | (go_at_call 61; (with_reducible refine (told_no_string t _ _ ht hl).mono ?_); rintro e w1 ⟨rfl, hb1⟩))
  go_ret2
  exact ⟨rfl, hb1⟩

set_option maxHeartbeats 400000 in
theorem sCurlsOf_no (t : ByteArray) (w : World) (ht : t.size ≤ 1048576) (hg : goodL t.data.toList = false) :
    Calls Try.prog 35 #[.string t] w fun e w' => e = .returned (.tuple #[.string ⟨#[]⟩, .bool false]) ∧ Below w.heap.size w w' := by
  have HG := Lib.hid hg
  clear hg
  go_enter Try.func35, Try.ntmps35
  go_wp2_with (first | (go_at_call 39; (with_reducible refine (loGood_any t _ ht).mono ?_); rintro e w1 ⟨rfl, hb1⟩; rw [HG.out]))
  go_ret2
  exact ⟨rfl, hb1⟩

theorem main_CurlsOf (t : ByteArray) (w : World) (ht : t.size ≤ 1048576) : Calls Try.prog 13 #[.string t] w fun e w' => e = .returned (.bool true) ∧ Below w.heap.size w w' := by
  cases hl : loopL t.data.toList with
  | none => exact core_CurlsOf t _ _ w ht (fun W => sCurlsOf_no t W ht (loopL_none hl)) (fun W => iCurlsOf_no t W ht hl)
  | some ps =>
    obtain ⟨h1, h2⟩ := loopL_some hl
    exact core_CurlsOf t _ _ w ht (fun W => sCurlsOf_yes t ps W ht h1 h2) (fun W => iCurlsOf_yes t ps W ht h1.few hl)

theorem walk_CurlsOf (t : ByteArray) (w : World) (wf0 : t.size ≤ maxLen) :
    Calls Try.prog 13 #[.string t] w fun e w' => e = .returned (.bool true) ∧ Below w.heap.size w w' := by
  by_cases h0 : 1048576 < (t.size : Int)
  · exact long0_CurlsOf t w  h0
  exact main_CurlsOf t w (by omega)

end Go.Proofs.Ytpcebcgmbngabaa
