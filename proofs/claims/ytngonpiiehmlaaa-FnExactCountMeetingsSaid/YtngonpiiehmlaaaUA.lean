/- How many threads meet: the program, and the law. -/
import Derived.Test.YtngonpiiehmlaaaU9
namespace Go.Proofs.Ytngonpiiehmlaaa
open Go.RowKit
set_option linter.unusedVariables false

set_option maxHeartbeats 1000000 in
theorem meetFn_any (a b : Int) (xs : List (Int × Int)) (k gs gl : Nat) (u : Value) (B T : Nat) (r : Bool) (w : World) (hL : PairsIn 37 w B T u xs) (hk : k < xs.length) (hn : xs.length ≤ 30) (s0 : w.cell? ⟨gs, 0, none⟩ = some (.int .i64 a)) (s1 : w.cell? ⟨gs, 1, none⟩ = some (.int .i64 b)) (hl : w.cell? ⟨gl, 0, none⟩ = some u) (hr : meetP (a, b) (xs.getD k (0, 0)) = r) :
    Calls Try.prog 83 #[.int .i64 k, .pointer (some ⟨gs, 0, none⟩), .pointer (some ⟨gl, 0, none⟩)] w fun e w' => e = .returned (.bool r) ∧ Below w.heap.size w w' := by
  obtain ⟨a1, c1, g1, rfl, ha1, hm, hx1, hy1⟩ := hL.pairs.view
  obtain rfl := ha1 (by omega)
  have e0 := hx1 k hk
  have e1 := hy1 k hk
  obtain ⟨x, y, hxy⟩ : ∃ x y, xs.getD k (0, 0) = (x, y) := ⟨_, _, rfl⟩
  rw [hxy] at e0 e1 hr
  simp only at e0 e1
  have HR := Lib.hid (show meetB a b x y = r from hr)
  have k1 : 0 ≤ (k : Int) := by omega
  have k2 : (k : Int) < (xs.length : Int) := by omega
  clear hL hx1 hy1 hxy hr ha1 hm
  go_enter Try.func83, Try.ntmps83
  go_wp2
  go_region_held3 (fun w' => w'.cell? ⟨gs, 0, none⟩ = some (.int .i64 a) ∧ w'.cell? ⟨gs, 1, none⟩ = some (.int .i64 b) ∧ w'.cell? ⟨gl, 0, none⟩ = some (.slice (some ⟨g1, 0, none⟩) xs.length c1) ∧ w'.cell? ⟨g1, k * 2, none⟩ = some (.int .i64 x) ∧ w'.cell? ⟨g1, k * 2 + 1, none⟩ = some (.int .i64 y)) (go_keep)
    (first | (go_at_call 55; (with_reducible refine (threadsMeet_any a b x y _).mono ?_); rintro e w1 ⟨rfl, hb⟩; rw [HR.out]; (have d0 := cellB hb (b := gs) (o := 0) (x := .int .i64 a) (by go_simp)); (have d1 := cellB hb (b := gs) (o := 1) (x := .int .i64 b) (by go_simp)); (have d2 := cellB hb (b := gl) (o := 0) (x := .slice (some ⟨g1, 0, none⟩) xs.length c1) (by go_simp)); (have d3 := cellB hb (b := g1) (o := k * 2) (x := .int .i64 x) (by go_simp)); (have d4 := cellB hb (b := g1) (o := k * 2 + 1) (x := .int .i64 y) (by go_simp)); (have hB : Below w.heap.size w w1 := by (refine Below.trans ?_ (hb.mono (by first | (simp; done) | omega | (simp; omega))); go_grown))))
  go_wp2
  go_ret
  exact ⟨rfl, by go_grown⟩

set_option maxHeartbeats 1000000 in
theorem where_meet (p : Nat) (a b : Int) (xs : List (Int × Int)) (gs gl : Nat) (u : Value) (B T : Nat) (c : Nat → Bool) (w : World) (h : p ≤ 30) (hp : p = xs.length) (hL : PairsIn 37 w B T u xs) (hT : T ≤ w.heap.size) (s0 : w.cell? ⟨gs, 0, none⟩ = some (.int .i64 a)) (s1 : w.cell? ⟨gs, 1, none⟩ = some (.int .i64 b)) (hl : w.cell? ⟨gl, 0, none⟩ = some u) (hcd : ∀ k, k < p → meetP (a, b) (xs.getD k (0, 0)) = c k) :
    Calls Try.prog 82 #[.int .i64 p, .func (.func 83) #[] #[.pointer (some ⟨gs, 0, none⟩), .pointer (some ⟨gl, 0, none⟩)]] w (GivesT w (selT c p)) := by
  have HCD := Lib.hid hcd
  have HL := Lib.hid hL
  have S0 := Lib.hid s0
  have S1 := Lib.hid s1
  have SL := Lib.hid hl
  have HP := Lib.hid hp
  clear hcd hL s0 s1 hl hp
  go_enter Try.func82, Try.ntmps82
  go_wp2
  go_loopw [5, 8] (fun u i wr => ∃ k : Nat, k ≤ p ∧ i = .int .i64 k ∧ Ints wr w.heap.size 3 u (selT c k) ∧ Below w.heap.size w wr) (fun _ i _ => p - (intOf i).toNat)
  case atStart => exact ⟨0, by omega, rfl, World.ownsRow_nil _ _ _ _, Below.refl _ _⟩
  case round =>
    obtain ⟨k, hk, rfl, hI, hB⟩ := hrel
    have HI := Lib.hid hI
    have hz := hB.size
    clear hI
    by_cases hlt : k < p
    · have hlen := selT_length c k
      have HL2 := Lib.hid (HL.out.keep (belowSame hB hT))
      have S02 := Lib.hid ((hB.cell (p := ⟨gs, 0, none⟩) (World.block_lt_of_cell? w _ S0.out)).trans S0.out)
      have S12 := Lib.hid ((hB.cell (p := ⟨gs, 1, none⟩) (World.block_lt_of_cell? w _ S1.out)).trans S1.out)
      have SL2 := Lib.hid ((hB.cell (p := ⟨gl, 0, none⟩) (World.block_lt_of_cell? w _ SL.out)).trans SL.out)
      cases hcb : c k with
      | true =>
        have HS := Lib.hid (selT_yes c k hcb)
        have HCB := Lib.hid hcb
        clear hcb
        go_wp2_with (first
          | (go_at_call 83; (refine (meetFn_any a b xs k gs gl u B T true _ HL2.out (by have := HP.out; omega) (by have := HP.out; omega) S02.out S12.out SL2.out ((HCD.out k hlt).trans HCB.out)).mono ?_); rintro e w1 ⟨rfl, hb1⟩; have HI1 := Lib.hid (HI.out.later hb1); have hB1 := hB.trans (hb1.mono hz); have hz1 := hB1.size)
          | (at_builtin; refine wpList_append_int rfl _ _ 40 rfl (w.heap.size) 3 Try.underlying40 info_int _ _ rfl HI1.out (k : Int) rfl (by omega) (by omega) ?_; intro v' w' hI' hg'; have hB' := HI1.out.below hB1 hz1 hg'; rw [HS.out] at hI'; have HI' := Lib.hid hI'; clear hI'))
        go_roundw
        case rel => exact ⟨k + 1, by omega, by go_num, HI'.out, hB'⟩
        case measure => simp [intOf]; omega
      | false =>
        have HS := Lib.hid (selT_no c k hcb)
        have HCB := Lib.hid hcb
        clear hcb
        go_wp2_with (first
          | (go_at_call 83; (refine (meetFn_any a b xs k gs gl u B T false _ HL2.out (by have := HP.out; omega) (by have := HP.out; omega) S02.out S12.out SL2.out ((HCD.out k hlt).trans HCB.out)).mono ?_); rintro e w1 ⟨rfl, hb1⟩; have HI1 := Lib.hid (HI.out.later hb1); have hB1 := hB.trans (hb1.mono hz)))
        go_roundw
        case rel => exact ⟨k + 1, by omega, by go_num, by rw [← HS.out]; exact HI1.out, hB1⟩
        case measure => simp [intOf]; omega
    · obtain rfl : k = p := by omega
      go_wp2
      go_ret
      exact ⟨_, rfl, HI.out, hB⟩

set_option maxHeartbeats 1000000 in
theorem indicesMeeting_any (u : Value) (xs : List (Int × Int)) (B T : Nat) (w : World) (h : PairsIn 37 w B T u xs) (hT : T ≤ w.heap.size) (a b : Int) (hn : xs.length ≤ 30) :
    Calls Try.prog 61 #[u, .agg #[.int .i64 a, .int .i64 b]] w (GivesT w (selT (fun k => meetP (a, b) (xs.getD k (0, 0))) xs.length)) := by
  have HB2 : Hid (Below w.heap.size w ((w.alloc (.cells #[u] 25)).alloc (.cells #[.int .i64 a, .int .i64 b] 37))) := Lib.hid (by go_grown)
  have HU2 := Lib.hid (h.keep (w' := ((w.alloc (.cells #[u] 25)).alloc (.cells #[.int .i64 a, .int .i64 b] 37))) (belowSame HB2.out hT))
  have d0 : ((w.alloc (.cells #[u] 25)).alloc (.cells #[.int .i64 a, .int .i64 b] 37)).cell? ⟨w.heap.size, 0, none⟩ = some u := by go_simp
  have d1 : ((w.alloc (.cells #[u] 25)).alloc (.cells #[.int .i64 a, .int .i64 b] 37)).cell? ⟨w.heap.size + 1, 0, none⟩ = some (.int .i64 a) := by go_simp
  have d2 : ((w.alloc (.cells #[u] 25)).alloc (.cells #[.int .i64 a, .int .i64 b] 37)).cell? ⟨w.heap.size + 1, 1, none⟩ = some (.int .i64 b) := by go_simp
  have D0 := Lib.hid d0
  have D1 := Lib.hid d1
  have D2 := Lib.hid d2
  obtain ⟨a1, c1, g1, rfl, _⟩ := h.pairs.view
  clear h d0 d1 d2
  go_enter Try.func61, Try.ntmps61
  go_wp2_with (first | (go_at_call 82; (refine (where_meet xs.length a b xs (w.heap.size + 1) w.heap.size _ B T (fun k => meetP (a, b) (xs.getD k (0, 0))) _ hn rfl HU2.out (by simp; omega) D1.out D2.out D0.out (fun _ _ => rfl)).mono ?_); rintro e w3 ⟨v, rfl, hI, hb3⟩))
  go_ret
  exact ⟨v, rfl, hI.mono (by first | (simp; done) | (simp; omega)), HB2.out.trans (hb3.mono (by first | (simp; done) | (simp; omega)))⟩

set_option maxHeartbeats 400000 in
theorem countFn_any (u : Value) (xs : List (Int × Int)) (B T : Nat) (w : World) (h : PairsIn 37 w B T u xs) (hT : T ≤ w.heap.size) (a b : Int) (gl : Nat) (hn : xs.length ≤ 30) (hl : w.cell? ⟨gl, 0, none⟩ = some u) :
    Calls Try.prog 60 #[.agg #[.int .i64 a, .int .i64 b], .pointer (some ⟨gl, 0, none⟩)] w fun e w' => e = .returned (.int .i64 (cntM (a, b) xs : Nat)) ∧ Below w.heap.size w w' := by
  have HB2 : Hid (Below w.heap.size w (w.alloc (.cells #[.int .i64 a, .int .i64 b] 37))) := Lib.hid (by go_grown)
  have HU2 := Lib.hid (h.keep (belowSame HB2.out hT))
  have hcnt := selT_cnt (a, b) xs xs.length (Nat.le_refl _)
  rw [List.take_length] at hcnt
  have HC := Lib.hid hcnt
  have zl := World.block_lt_of_cell? w _ hl
  simp only at zl
  clear h hcnt
  go_enter Try.func60, Try.ntmps60
  go_wp2_with (first | (go_at_call 61; (refine (indicesMeeting_any _ xs B T _ HU2.out (by simp; omega) a b hn).mono ?_); rintro e w3 ⟨v, rfl, hI, hb3⟩; obtain ⟨a9, c9, g9, rfl, _⟩ := hI.view; rw [HC.out]))
  go_ret
  exact ⟨rfl, HB2.out.trans (hb3.mono (by simp))⟩

theorem cntM_le2 (c : Int × Int) (xs : List (Int × Int)) (hn : xs.length ≤ 30) : cntM c xs ≤ 30 := Nat.le_trans (cntM_le c xs) hn

theorem sum_take (f : Int × Int → Nat) (xs : List (Int × Int)) (k : Nat) (h : k < xs.length) : ((xs.take (k + 1)).map f).sum = ((xs.take k).map f).sum + f (xs.getD k (0, 0)) := by
  rw [List.take_succ_eq_append_getElem h, List.map_append, List.sum_append]
  simp [List.getD, List.getElem?_eq_getElem h]

theorem sum_le (f : Int × Int → Nat) (m : Nat) (hf : ∀ x, f x ≤ m) (xs : List (Int × Int)) : (xs.map f).sum ≤ xs.length * m := by
  induction xs with
  | nil => simp
  | cons x r ih =>
    have := hf x
    simp only [List.map_cons, List.sum_cons, List.length_cons, Nat.succ_mul]
    omega

set_option maxHeartbeats 1000000 in
theorem sumMeet_any (u : Value) (xs : List (Int × Int)) (B T : Nat) (w : World) (h : PairsIn 37 w B T u xs) (hT : T ≤ w.heap.size) (gl : Nat) (hn : xs.length ≤ 30) (hl : w.cell? ⟨gl, 0, none⟩ = some u) :
    Calls Try.prog 59 #[u, .func (.func 60) #[] #[.pointer (some ⟨gl, 0, none⟩)]] w fun e w' => e = .returned (.int .i64 ((2 * pairsM xs : Nat) : Int)) ∧ Below w.heap.size w w' := by
  have HU := Lib.hid h
  obtain ⟨a1, c1, g1, rfl, ha1, hmm, hx1, hy1⟩ := h.pairs.view
  have X := Lib.hid hx1
  have Y := Lib.hid hy1
  have HA := Lib.hid ha1
  have HL := Lib.hid hl
  obtain ⟨S, hS⟩ : ∃ S : Nat → Nat, S = fun k => ((xs.take k).map (fun x => cntM x xs)).sum := ⟨_, rfl⟩
  have s0 : S 0 = 0 := by rw [hS]; simp
  have sN : S xs.length = 2 * pairsM xs := by rw [hS]; simp only [List.take_length]; exact twice_pairs xs
  have sS : ∀ k, k < xs.length → S (k + 1) = S k + cntM (xs.getD k (0, 0)) xs := fun k hk => by rw [hS]; exact sum_take _ xs k hk
  have sL : ∀ k, k ≤ xs.length → S k ≤ 900 := fun k hk => by
    have h1 := sum_le (fun x => cntM x xs) 30 (fun x => cntM_le2 x xs hn) (xs.take k)
    rw [hS]
    simp only [List.length_take] at h1
    have : min k xs.length * 30 ≤ 30 * 30 := Nat.mul_le_mul_right _ (by omega)
    simp only
    omega
  have SN := Lib.hid sN
  have SS := Lib.hid sS
  have SL := Lib.hid sL
  clear h ha1 hx1 hy1 hl hS sN sS sL hmm
  go_enter Try.func59, Try.ntmps59
  go_wp2
  go_loopw [5, 10] (fun c i wr => ∃ k : Nat, k ≤ xs.length ∧ i = .int .i64 k ∧ c = .int .i64 (S k : Nat) ∧ Below w.heap.size w wr) (fun _ i _ => xs.length - (intOf i).toNat)
  case atStart => exact ⟨0, by omega, rfl, by rw [s0]; rfl, Below.refl _ _⟩
  case round =>
    obtain ⟨k, hk, rfl, rfl, hB⟩ := hrel
    have hz := hB.size
    by_cases hlt : k < xs.length
    · obtain rfl := HA.out (by omega)
      obtain ⟨x, y, hxy⟩ : ∃ x y, xs.getD k (0, 0) = (x, y) := ⟨_, _, rfl⟩
      have cx : wr.cell? ⟨g1, k * 2, none⟩ = _ := (hB.cell (p := ⟨g1, k * 2, none⟩) (World.block_lt_of_cell? w _ (X.out k hlt))).trans (X.out k hlt)
      have cy : wr.cell? ⟨g1, k * 2 + 1, none⟩ = _ := (hB.cell (p := ⟨g1, k * 2 + 1, none⟩) (World.block_lt_of_cell? w _ (Y.out k hlt))).trans (Y.out k hlt)
      have hst := SS.out k hlt
      rw [hxy] at cx cy hst
      simp only at cx cy
      have hB2 : Below w.heap.size w (wr.alloc (.cells #[.int .i64 x, .int .i64 y] 37)) := hB.alloc hz _
      have HU2 := Lib.hid (HU.out.keep (belowSame hB2 hT))
      have HL2 := Lib.hid ((hB2.cell (p := ⟨gl, 0, none⟩) (World.block_lt_of_cell? w _ HL.out)).trans HL.out)
      have HB2 := Lib.hid hB2
      have l1 := SL.out k hk
      have l2 := cntM_le2 (x, y) xs hn
      obtain ⟨s, hs⟩ : ∃ s, S k = s := ⟨_, rfl⟩
      obtain ⟨c, hc⟩ : ∃ c, cntM (x, y) xs = c := ⟨_, rfl⟩
      rw [hs] at hst l1 ⊢
      rw [hc] at hst l2
      have HST := Lib.hid hst
      have HCC := Lib.hid hc
      have hw : IntKind.i64.wrap ((s : Int) + (c : Int)) = ((s + c : Nat) : Int) := by rw [IntKind.wrap_i64]; omega
      clear hxy hst hs hc hB2
      go_wp2_with (first | (go_at_call 60; (refine (countFn_any _ xs B T _ HU2.out (by simp; omega) x y gl hn HL2.out).mono ?_); rintro e w3 ⟨rfl, hb3⟩; rw [HCC.out]))
      go_roundw
      case rel => exact ⟨k + 1, by omega, by go_num, by rw [HST.out]; go_num, HB2.out.trans (hb3.mono (by simp; omega))⟩
      case measure => simp [intOf]; omega
    · obtain rfl : k = xs.length := by omega
      rw [SN.out]
      go_wp2
      go_ret
      exact ⟨rfl, hB⟩

set_option maxHeartbeats 400000 in
theorem iCountMeetings_yes (u : Value) (xs : List (Int × Int)) (B T : Nat) (w : World) (h : PairsIn 37 w B T u xs) (hT : T ≤ w.heap.size) (hg : goodT xs) :
    Calls Try.prog 33 #[u] w fun e w' => e = .returned (.tuple #[.int .i64 (pairsM xs : Nat), .bool true]) ∧ Below w.heap.size w w' := by
  have HB1 : Hid (Below w.heap.size w (w.alloc (.cells #[u] 25))) := Lib.hid (by go_grown)
  have HU1 := Lib.hid (h.keep (belowSame HB1.out hT))
  have hn : xs.length ≤ 30 := hg.1.2
  have HG := Lib.hid hg
  have hp : pairsM xs ≤ 900 := by
    have h1 := pairsM_le xs
    have h2 : xs.length * xs.length ≤ 30 * 30 := Nat.mul_le_mul hn hn
    omega
  obtain ⟨tot, htot⟩ : ∃ tot, pairsM xs = tot := ⟨_, rfl⟩
  have HT := Lib.hid htot
  rw [htot] at hp ⊢
  have hq : ((2 * tot : Nat) : Int) / 2 = (tot : Int) := by omega
  have hw : IntKind.i64.wrap (tot : Int) = tot := by rw [IntKind.wrap_i64]; omega
  obtain ⟨t2, ht2⟩ : ∃ t2, 2 * tot = t2 := ⟨_, rfl⟩
  rw [ht2] at hq
  have HT2 := Lib.hid ht2
  have q2 : t2 ≤ 1800 := by omega
  obtain ⟨a1, c1, g1, rfl, _⟩ := h.pairs.view
  clear h hg htot ht2
  go_enter Try.func33, Try.ntmps33
  go_wp2_with (first
    | (go_at_call 18; (with_reducible refine (AreThreads_yes _ _ B T _ HU1.out HG.out).mono ?_); rintro e w1 ⟨rfl, hb1⟩; (have c0 : w1.cell? ⟨w.heap.size, 0, none⟩ = some (.slice a1 xs.length c1) := cellB hb1 (by go_simp)); have HU2 := Lib.hid (HU1.out.keep (belowSame hb1 (by simp; omega))); (have hz1 : w.heap.size < w1.heap.size := by have := hb1.size; simp at this; omega); (have hB1 : Below w.heap.size w w1 := HB1.out.trans (hb1.mono (by simp))); clear hb1)
    | (go_at_call 59; (refine (sumMeet_any _ xs B T _ HU2.out (by omega) w.heap.size hn c0).mono ?_); rintro e w2 ⟨rfl, hb2⟩; rw [HT.out, HT2.out]))
  go_ret2
  exact ⟨rfl, hB1.trans (hb2.mono (by omega))⟩

set_option maxHeartbeats 400000 in
theorem iCountMeetings_no (u : Value) (xs : List (Int × Int)) (B T : Nat) (w : World) (h : PairsIn 37 w B T u xs) (hT : T ≤ w.heap.size) (hg : ¬ goodT xs) :
    Calls Try.prog 33 #[u] w fun e w' => e = .returned (.tuple #[.int .i64 0, .bool false]) ∧ Below w.heap.size w w' := by
  have HB1 : Hid (Below w.heap.size w (w.alloc (.cells #[u] 25))) := Lib.hid (by go_grown)
  have HU1 := Lib.hid (h.keep (belowSame HB1.out hT))
  have HG := Lib.hid hg
  obtain ⟨a1, c1, g1, rfl, _⟩ := h.pairs.view
  clear h hg
  go_enter Try.func33, Try.ntmps33
  go_wp2_with (first | (go_at_call 18; (with_reducible refine (AreThreads_no _ _ B T _ HU1.out HG.out).mono ?_); rintro e w1 ⟨rfl, hb1⟩))
  go_ret2
  exact ⟨rfl, HB1.out.trans (hb1.mono (by simp))⟩

set_option maxHeartbeats 400000 in
theorem sCountMeetings_no (u : Value) (xs : List (Int × Int)) (B T : Nat) (w : World) (h : PairsIn 37 w B T u xs) (hT : T ≤ w.heap.size) (hg : ¬ goodT xs) :
    Calls Try.prog 32 #[u] w fun e w' => e = .returned (.tuple #[.int .i64 0, .bool false]) ∧ Below w.heap.size w w' := by
  go_enter Try.func32, Try.ntmps32
  go_wp2_with (first | (go_at_call 48; (with_reducible refine (sgGood_no u xs B T _ h hg).mono ?_); rintro e w1 ⟨rfl, hb1⟩))
  go_ret2
  exact ⟨rfl, hb1⟩

set_option maxHeartbeats 1000000 in
theorem core_CountMeetings (v : Value) (xs : List (Int × Int)) (x : Int) (b : Bool) (w : World) (hA : ArgP w v xs) (hn : xs.length ≤ 1048576)
    (hs : ∀ (W : World) (u : Value) (B T : Nat), PairsIn 37 W B T u xs → T ≤ W.heap.size → Calls Try.prog 32 #[u] W (fun e w' => e = .returned (.tuple #[.int .i64 x, .bool b]) ∧ Below W.heap.size W w'))
    (hi : ∀ (W : World) (u : Value) (B T : Nat), PairsIn 37 W B T u xs → T ≤ W.heap.size → Calls Try.prog 33 #[u] W (fun e w' => e = .returned (.tuple #[.int .i64 x, .bool b]) ∧ Below W.heap.size W w')) :
    Calls Try.prog 7 #[v] w fun e w' => e = .returned (.bool true) ∧ Below w.heap.size w w' := by
  have hA1 := hA
  obtain ⟨a0, cap, a, rfl, _⟩ := hA1
  have HS := Lib.hid hs
  have HI := Lib.hid hi
  have HA := Lib.hid hA
  clear hs hi hA
  go_enter Try.func7, Try.ntmps7
  go_wp2_with fail
  refine (szThreadS_yes _ _ _ _ hn).mono ?_
  rintro e w0 ⟨rfl, rfl⟩
  go_wp2_with fail
  refine (toThreadS_any _ _ _ (HA.out.later (by go_grown)) hn).mono ?_
  rintro e w1 ⟨va, rfl, ka_1, hb1⟩
  have n1 : w.heap.size ≤ w1.heap.size := by have := hb1.size; (try simp at this); omega
  have B1 : Below w.heap.size w w1 := Below.trans (by go_grown) (hb1.mono (by first | (simp; done) | (simp; omega)))
  go_wp2_with fail
  refine (HS.out _ _ _ _ ka_1 (by omega)).mono ?_
  rintro e w2 ⟨rfl, hb2⟩
  have n2 := hb2.size
  have B2 := B1.trans (hb2.mono (by omega))
  have ka_2 := ka_1.keep (belowSame hb2 (by omega))
  go_wp2_with fail
  refine (toThreadS_any _ _ _ (HA.out.later B2) hn).mono ?_
  rintro e w3 ⟨vc, rfl, kc_3, hb3⟩
  have n3 := hb3.size
  have B3 := B2.trans (hb3.mono (by omega))
  have ka_3 := ka_2.keep (belowSame hb3 (by omega))
  go_wp2_with fail
  refine (HI.out _ _ _ _ kc_3 (by omega)).mono ?_
  rintro e w4 ⟨rfl, hb4⟩
  have n4 := hb4.size
  have B4 := B3.trans (hb4.mono (by omega))
  have ka_4 := ka_3.keep (belowSame hb4 (by omega))
  have kc_4 := kc_3.keep (belowSame hb4 (by omega))
  go_wp2_with fail
  refine (toThreadS_any _ _ _ (HA.out.later B4) hn).mono ?_
  rintro e w5 ⟨vd, rfl, kd_5, hb5⟩
  have n5 := hb5.size
  have B5 := B4.trans (hb5.mono (by omega))
  have ka_5 := ka_4.keep (belowSame hb5 (by omega))
  have kc_5 := kc_4.keep (belowSame hb5 (by omega))
  go_wp2_with fail
  refine (eqThreadS_in _ _ _ _ _ _ _ _ _ kc_5 kd_5).mono ?_
  rintro e w6 ⟨rfl, hb6⟩
  have n6 := hb6.size
  have B6 := B5.trans (hb6.mono (by omega))
  have ka_6 := ka_5.keep (belowSame hb6 (by omega))
  have kc_6 := kc_5.keep (belowSame hb6 (by omega))
  have kd_6 := kd_5.keep (belowSame hb6 (by omega))
  go_wp2_with fail
  go_ret
  exact ⟨rfl, B6⟩

set_option maxHeartbeats 400000 in
theorem long_CountMeetings (v : Value) (xs : List (Int × Int)) (w : World) (hA : ArgP w v xs) (hn : ¬ xs.length ≤ 1048576) :
    Calls Try.prog 7 #[v] w fun e w' => e = .returned (.bool true) ∧ Below w.heap.size w w' := by
  obtain ⟨a0, cap, a, rfl, _, hm, _⟩ := hA
  go_enter Try.func7, Try.ntmps7
  go_wp2_with fail
  refine (szThreadS_no _ _ _ _ (by omega) hm).mono ?_
  rintro e w0 ⟨rfl, rfl⟩
  go_wp2_with fail
  go_ret
  exact ⟨rfl, by go_grown⟩

theorem walk_CountMeetings (v : Value) (xs : List (Int × Int)) (w : World) (hA : ArgP w v xs) :
    Calls Try.prog 7 #[v] w fun e w' => e = .returned (.bool true) ∧ Below w.heap.size w w' := by
  by_cases hn : xs.length ≤ 1048576
  · by_cases hg : goodT xs
    · exact core_CountMeetings v xs _ _ w hA hn (fun W u B T h hT => sCountMeetings_yes u xs B T W h hT hg) (fun W u B T h hT => iCountMeetings_yes u xs B T W h hT hg)
    · exact core_CountMeetings v xs _ _ w hA hn (fun W u B T h hT => sCountMeetings_no u xs B T W h hT hg) (fun W u B T h hT => iCountMeetings_no u xs B T W h hT hg)
  · exact long_CountMeetings v xs w hA hn

end Go.Proofs.Ytngonpiiehmlaaa
