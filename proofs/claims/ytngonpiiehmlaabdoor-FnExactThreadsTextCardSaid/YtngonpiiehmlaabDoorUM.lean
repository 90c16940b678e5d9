/- Texts of threads: both sides, and the law. -/
import Derived.Test.YtngonpiiehmlaabDoorUJ
import Derived.Test.YtngonpiiehmlaabDoorSj
import Derived.Test.YtngonpiiehmlaabDoorUGs
import Derived.Test.YtngonpiiehmlaabDoorUGi
import Derived.Test.YtngonpiiehmlaabDoorUN
import Derived.Deep.RegionHeld3
namespace Go.Proofs.YtngonpiiehmlaabDoor
open Go.RowKit
set_option linter.unusedVariables false

theorem Tryd.joinExtra : Go.Proofs.Builder.Extra Tryd.prog Tryd.joinL_ren where
  sizeBuilder := by kernel_rfl
  liesBuilder := by kernel_rfl
  t5 := Tryd.underlying5
  a5 := Tryd.isAgg5
  z5 := Tryd.sizeOf5
  v5 := Tryd.zeroValue5
  infoByte := by kernel_rfl
  cellsByte := by kernel_rfl
  sizeByte := by kernel_rfl
  neB5 := by decide

theorem join_any (xs : List (Int × Int)) (hs : SmallP xs) (g : Nat) (w : World) (hn : xs.length ≤ 30) (h : ValAt 9 w g ((textsB xs xs.length).map Value.string)) :
    Calls Tryd.prog 29 #[.slice (some ⟨g, 0, none⟩) xs.length xs.length, .string ⟨#[44]⟩] w fun e w' => e = .returned (.string (textB xs xs.length)) ∧ Below w.heap.size w w' := by
  have hl := textsB_length xs xs.length
  have hjs := join_size xs hs xs.length
  have hc := Any.strings_Join Tryd.joinL Tryd.joinExtra g 0 xs.length (textsB xs xs.length) ⟨#[44]⟩ w (fun j x hx => by
    rw [Nat.zero_add]
    exact h.cell j _ (by rw [List.getElem?_map, hx]; rfl)) h.lt (by omega) (by omega) (by show (Lib.join _ [44]).length ≤ _; omega)
  rw [hl] at hc
  refine hc.mono ?_
  rintro e w' ⟨rfl, hb⟩
  exact ⟨by rw [textB_join xs xs.length], hb⟩

theorem info_strS : (Tryd.prog.info? 9).map (fun i => (i.zero, i.size, i.bytes)) = some (some (.string ⟨#[]⟩), 1, 16) := by kernel_rfl

theorem goodT_at {xs : List (Int × Int)} (h : goodT xs) (k : Nat) (hk : k < xs.length) : 0 ≤ (xs.getD k (0, 0)).1 ∧ (xs.getD k (0, 0)).1 < 101 ∧ 0 ≤ (xs.getD k (0, 0)).2 ∧ (xs.getD k (0, 0)).2 < 101 := by
  have h1 := h.at k hk
  unfold isT at h1
  omega

theorem goodT_small {xs : List (Int × Int)} (h : goodT xs) : SmallP xs := fun k => by
  by_cases hk : k < xs.length
  · have := goodT_at h k hk
    omega
  · rw [List.getD_eq_getElem?_getD, List.getElem?_eq_none (by omega)]
    simp

set_option maxHeartbeats 4000000 in
set_option maxRecDepth 100000 in
theorem sgText_any (u : Value) (xs : List (Int × Int)) (hs : SmallP xs) (B T : Nat) (w : World) (h : PairsIn 47 w B T u xs) (hn : xs.length ≤ 30) (hg : ∀ k, k < xs.length → 0 ≤ (xs.getD k (0, 0)).1 ∧ (xs.getD k (0, 0)).1 < 101 ∧ 0 ≤ (xs.getD k (0, 0)).2 ∧ (xs.getD k (0, 0)).2 < 101) :
    Calls Tryd.prog 25 #[u] w fun e w' => e = .returned (.string (textB xs xs.length)) ∧ Below w.heap.size w w' := by
  obtain ⟨a1, c1, g1, rfl, ha1, hmm, hx1, hy1⟩ := h.pairs.view
  have X := Lib.hid hx1
  have Y := Lib.hid hy1
  have HA := Lib.hid ha1
  have HG := Lib.hid hg
  clear h ha1 hx1 hy1 hmm hg
  go_enter Tryd.func25, Tryd.ntmps25
  go_wp2
  go_loopw [3, 8] (fun s i wr => ∃ k : Nat, k ≤ xs.length ∧ i = .int .i64 k ∧ s = .string (textB xs k) ∧ Below w.heap.size w wr) (fun _ i _ => xs.length - (intOf i).toNat)
  case atStart => exact ⟨0, by omega, rfl, rfl, Below.refl _ _⟩
  case round =>
    obtain ⟨k, hk, rfl, rfl, hB⟩ := hrel
    by_cases hlt : k < xs.length
    · obtain rfl := HA.out (by omega)
      have hz := hB.size
      have cx := cellB hB (X.out k hlt)
      have cy := cellB hB (Y.out k hlt)
      obtain ⟨b1, b2, b3, b4⟩ := HG.out k hlt
      have hstep : textB xs (k + 1) = (if k = 0 then textB xs k else textB xs k ++ ⟨#[44]⟩) ++ (dB (xs.getD k (0, 0)).1.toNat ++ ⟨#[58]⟩ ++ dB (xs.getD k (0, 0)).2.toNat) := rfl
      have hts := textB_size xs hs k
      obtain ⟨x, hx⟩ : ∃ x, x = (xs.getD k (0, 0)).1 := ⟨_, rfl⟩
      obtain ⟨y, hy⟩ : ∃ y, y = (xs.getD k (0, 0)).2 := ⟨_, rfl⟩
      obtain ⟨tk, htk⟩ : ∃ t, t = textB xs k := ⟨_, rfl⟩
      rw [← hx] at cx b1 b2 hstep
      rw [← hy] at cy b3 b4 hstep
      rw [← htk] at hts hstep ⊢
      have HB := Lib.hid hB
      have hw1 : IntKind.i64.wrap ((k : Int) + 1) = ((k + 1 : Nat) : Int) := by rw [IntKind.wrap_i64]; omega
      have s1 := dB_size3 x.toNat (by omega)
      have s2 := dB_size3 y.toNat (by omega)
      have s3 : (⟨#[58]⟩ : ByteArray).size = 1 := rfl
      have s4 : (⟨#[44]⟩ : ByteArray).size = 1 := rfl
      have q1 := strAdd (dB x.toNat) ⟨#[58]⟩ (by omega)
      have q2 := strAdd (dB x.toNat ++ ⟨#[58]⟩) (dB y.toNat) (by rw [ByteArray.size_append]; omega)
      by_cases h0 : k = 0
      · rw [if_pos h0] at hstep
        have q3 := strAdd tk (dB x.toNat ++ ⟨#[58]⟩ ++ dB y.toNat) (by rw [ByteArray.size_append, ByteArray.size_append]; omega)
        have HST := Lib.hid hstep
        have hk0 : ¬ (0 : Int) < (k : Int) := by omega
        clear hx hy htk hB hstep s1 s2 s3 s4 hts h0
        go_wp2
        go_region_held3 (fun w' => w'.cell? ⟨wr.heap.size, 0, none⟩ = some (.int .i64 x) ∧ w'.cell? ⟨wr.heap.size, 1, none⟩ = some (.int .i64 y)) (go_keep)
          (first | (go_at_call 46; refine (l1Num_iB _ _ (by omega) (by omega)).mono ?_; rintro e w1 ⟨rfl, hb⟩; (have c0 : w1.cell? ⟨wr.heap.size, 0, none⟩ = some (.int .i64 x) := cellB hb (by first | assumption | go_simp)); (have c1 : w1.cell? ⟨wr.heap.size, 1, none⟩ = some (.int .i64 y) := cellB hb (by first | assumption | go_simp)); (have hz1 : wr.heap.size < w1.heap.size := by (have := hb.size; (try simp at this); omega)); (have hBw : Below wr.heap.size wr w1 := by (refine Below.trans ?_ (hb.mono (by first | (simp; done) | omega | (simp; omega))); go_grown)); clear hb))
        all_goals
          go_wp2
          go_roundw
          case rel => exact ⟨k + 1, by omega, by go_num, by rw [HST.out], HB.out.trans ((by go_grown : Below wr.heap.size wr _).mono hz)⟩
          case measure => simp [intOf]; omega
      · rw [if_neg h0] at hstep
        have q4 := strAdd tk ⟨#[44]⟩ (by omega)
        have q3 := strAdd (tk ++ ⟨#[44]⟩) (dB x.toNat ++ ⟨#[58]⟩ ++ dB y.toNat) (by rw [ByteArray.size_append, ByteArray.size_append, ByteArray.size_append]; omega)
        have HST := Lib.hid hstep
        have hk0 : (0 : Int) < (k : Int) := by omega
        clear hx hy htk hB hstep s1 s2 s3 s4 hts h0
        go_wp2
        go_region_held3 (fun w' => w'.cell? ⟨wr.heap.size, 0, none⟩ = some (.int .i64 x) ∧ w'.cell? ⟨wr.heap.size, 1, none⟩ = some (.int .i64 y)) (go_keep)
          (first | (go_at_call 46; refine (l1Num_iB _ _ (by omega) (by omega)).mono ?_; rintro e w1 ⟨rfl, hb⟩; (have c0 : w1.cell? ⟨wr.heap.size, 0, none⟩ = some (.int .i64 x) := cellB hb (by first | assumption | go_simp)); (have c1 : w1.cell? ⟨wr.heap.size, 1, none⟩ = some (.int .i64 y) := cellB hb (by first | assumption | go_simp)); (have hz1 : wr.heap.size < w1.heap.size := by (have := hb.size; (try simp at this); omega)); (have hBw : Below wr.heap.size wr w1 := by (refine Below.trans ?_ (hb.mono (by first | (simp; done) | omega | (simp; omega))); go_grown)); clear hb))
        all_goals
          go_wp2
          go_roundw
          case rel => exact ⟨k + 1, by omega, by go_num, by rw [HST.out], HB.out.trans ((by go_grown : Below wr.heap.size wr _).mono hz)⟩
          case measure => simp [intOf]; omega
    · obtain rfl : k = xs.length := by omega
      go_wp2
      go_ret
      exact ⟨rfl, hB⟩

set_option maxHeartbeats 4000000 in
set_option maxRecDepth 100000 in
theorem iThreadsText_yes (u : Value) (xs : List (Int × Int)) (B T : Nat) (w : World) (hn : TabW w) (h : PairsIn 47 w B T u xs) (hT : T ≤ w.heap.size) (hg : goodT xs) :
    Calls Tryd.prog 10 #[u] w fun e w' => e = .returned (.tuple #[.string (textB xs xs.length), .bool true]) ∧ Below w.heap.size w w' := by
  obtain ⟨a1, c1, g1, rfl, ha1, hmm, hx1, hy1⟩ := h.pairs.view
  have hl := hg.1.2
  have X := Lib.hid hx1
  have Y := Lib.hid hy1
  have HA := Lib.hid ha1
  have HG := Lib.hid (goodT_at hg)
  have HSM := Lib.hid (goodT_small hg)
  have HN := Lib.hid hn
  clear hn
  have hmk := make_strs (P := Tryd.prog) Tryd.underlying50 info_strS xs.length (by omega)
  go_enter Tryd.func10, Tryd.ntmps10
  go_wp2_with (first | (go_at_call 27; (with_reducible refine (AreThreads_yes _ xs B T _ h hg).mono ?_); rintro e w1 ⟨rfl, hb1⟩))
  have HB1 := Lib.hid hb1
  clear h ha1 hx1 hy1 hmm hg hmk hb1
  go_loopw [15] (fun i wr => ∃ k : Nat, k ≤ xs.length ∧ i = .int .i64 k ∧ ValAt 9 wr w1.heap.size (partB xs xs.length k) ∧ Below w.heap.size w wr) (fun i _ => xs.length - (intOf i).toNat)
  case atStart => exact ⟨0, by omega, rfl, by rw [partB_zero]; exact heap_alloc_new w1 _, HB1.out.alloc (by have := HB1.out.size; omega) _⟩
  case round =>
    obtain ⟨k, hk, rfl, hV, hB⟩ := hrel
    have hz := hB.size
    have hgz := hV.lt
    by_cases hlt : k < xs.length
    · obtain rfl := HA.out (by omega)
      have cx := cellB hB (X.out k hlt)
      have cy := cellB hB (Y.out k hlt)
      have hg1 := World.block_lt_of_cell? w _ (X.out k hlt)
      simp only at hg1
      obtain ⟨b1, b2, b3, b4⟩ := HG.out k hlt
      have hcv := hV.cell k _ (partB_get xs xs.length k hlt)
      have hfv := hV.frozen k
      have hpb : pairB (xs.getD k (0, 0)) = dB (xs.getD k (0, 0)).1.toNat ++ ⟨#[58]⟩ ++ dB (xs.getD k (0, 0)).2.toNat := rfl
      obtain ⟨x, hx⟩ : ∃ x, x = (xs.getD k (0, 0)).1 := ⟨_, rfl⟩
      obtain ⟨y, hy⟩ : ∃ y, y = (xs.getD k (0, 0)).2 := ⟨_, rfl⟩
      rw [← hx] at cx b1 b2 hpb
      rw [← hy] at cy b3 b4 hpb
      have HPB := Lib.hid hpb
      have hk1 : 0 ≤ (k : Int) := by omega
      have hk2 : (k : Int) < (xs.length : Int) := by omega
      have hw1 : IntKind.i64.wrap ((k : Int) + 1) = ((k + 1 : Nat) : Int) := by rw [IntKind.wrap_i64]; omega
      have s1 := dB_size3 x.toNat (by omega)
      have s2 := dB_size3 y.toNat (by omega)
      have s3 : (⟨#[58]⟩ : ByteArray).size = 1 := rfl
      have q1 := strAdd (dB x.toNat) ⟨#[58]⟩ (by omega)
      have q2 := strAdd (dB x.toNat ++ ⟨#[58]⟩) (dB y.toNat) (by rw [ByteArray.size_append]; omega)
      have HV := Lib.hid hV
      have HB := Lib.hid hB
      clear hx hy hV hB hpb s1 s2 s3
      have hbw : Below wr.heap.size wr (wr.alloc (.cells #[.int .i64 x, .int .i64 y] 47)) := (Below.refl _ _).alloc (Nat.le_refl _) _
      go_wp2
      obtain ⟨wb, hwb⟩ : ∃ z, z = wr.alloc (.cells #[.int .i64 x, .int .i64 y] 47) := ⟨_, rfl⟩
      have d0 : wb.cell? ⟨wr.heap.size, 0, none⟩ = some (.int .i64 x) := by rw [hwb]; go_simp
      have d1 : wb.cell? ⟨wr.heap.size, 1, none⟩ = some (.int .i64 y) := by rw [hwb]; go_simp
      rw [← hwb] at hbw ⊢
      have HVb := Lib.hid (HV.out.keep hbw)
      have dk := HVb.out.cell k _ (partB_get xs xs.length k hlt)
      have df := HVb.out.frozen k
      have ne1 : ¬ wr.heap.size = w1.heap.size := by omega
      have ne2 : ¬ w1.heap.size = wr.heap.size := by omega
      have HBb := Lib.hid hbw
      clear hwb hbw cx cy hcv hfv HV
      have hBW : Below w.heap.size w wb := HB.out.trans (HBb.out.mono hz)
      have hzb := HBb.out.size
      go_region_held3 (fun w' => w'.cell? ⟨wr.heap.size, 0, none⟩ = some (.int .i64 x) ∧ w'.cell? ⟨wr.heap.size, 1, none⟩ = some (.int .i64 y)) (go_keep)
        (first | (go_at_call 28; refine (itoa_dB _ _ (by omega) (by omega) (HN.out.later (by go_grown))).mono ?_; rintro e w2 ⟨rfl, hb2⟩; (have hbw : Below wb.heap.size wb w2 := by (refine Below.trans ?_ (hb2.mono (by first | (simp; done) | omega | (simp; omega))); go_grown)); (have hzw := hbw.size); (have e0 : w2.cell? ⟨wr.heap.size, 0, none⟩ = some (.int .i64 x) := cellB hbw d0); (have e1 : w2.cell? ⟨wr.heap.size, 1, none⟩ = some (.int .i64 y) := cellB hbw d1); (have ek := (HVb.out.keep hbw).cell k _ (partB_get xs xs.length k hlt)); (have ef := (HVb.out.keep hbw).frozen k); (have hBW2 : Below w.heap.size w w2 := hBW.trans (hbw.mono (by omega))); (have HV2 := Lib.hid (HVb.out.keep hbw)); clear hb2))
      all_goals
        have hset := Lib.hid (show ValAt 9 (w2.setCell ⟨w1.heap.size, k, none⟩ (.string (dB x.toNat ++ ⟨#[58]⟩ ++ dB y.toNat))) w1.heap.size (partB xs xs.length (k + 1)) by
          rw [← partB_set xs xs.length k hlt, HPB.out]
          exact HV2.out.stored k _)
        go_wp2
        go_roundw
        case rel => exact ⟨k + 1, by omega, by go_num, hset.out, by first | exact hBW2.setCell (p := ⟨w1.heap.size, k, none⟩) HB1.out.size _ | exact bdn (hBW2.setCell (p := ⟨w1.heap.size, k, none⟩) HB1.out.size _) 1⟩
        case measure => simp [intOf]; omega
    · obtain rfl : k = xs.length := by omega
      rw [partB_all] at hV
      have HV := Lib.hid hV
      have HB := Lib.hid hB
      clear hV hB
      go_wp2_with (first | (go_at_call 29; (with_reducible refine (join_any xs HSM.out w1.heap.size _ hl HV.out).mono ?_); rintro e w2 ⟨rfl, hb2⟩))
      go_ret2
      exact ⟨rfl, HB.out.trans (hb2.mono hz)⟩

set_option maxHeartbeats 400000 in
theorem iThreadsText_no (u : Value) (xs : List (Int × Int)) (B T : Nat) (w : World) (h : PairsIn 47 w B T u xs) (hT : T ≤ w.heap.size) (hg : ¬ goodT xs) :
    Calls Tryd.prog 10 #[u] w fun e w' => e = .returned (.tuple #[.string ⟨#[]⟩, .bool false]) ∧ Below w.heap.size w w' := by
  go_enter Tryd.func10, Tryd.ntmps10
  go_wp2_with (first | (go_at_call 27; (with_reducible refine (AreThreads_no u xs B T _ h hg).mono ?_); rintro e w1 ⟨rfl, hb1⟩))
  go_ret2
  exact ⟨rfl, hb1⟩

set_option maxHeartbeats 400000 in
theorem sThreadsText_yes (u : Value) (xs : List (Int × Int)) (B T : Nat) (w : World) (h : PairsIn 47 w B T u xs) (hT : T ≤ w.heap.size) (hg : goodT xs) :
    Calls Tryd.prog 8 #[u] w fun e w' => e = .returned (.tuple #[.string (textB xs xs.length), .bool true]) ∧ Below w.heap.size w w' := by
  have hl := hg.1.2
  have hat := goodT_at hg
  have hsm := goodT_small hg
  go_enter Tryd.func8, Tryd.ntmps8
  go_wp2_with (first | (go_at_call 24; (with_reducible refine (sgGood_yes u xs B T _ h hg).mono ?_); rintro e w1 ⟨rfl, hb1⟩; have h1 := h.keep (belowSame hb1 hT); have hz1 := hb1.size) | (go_at_call 25; (with_reducible refine (sgText_any u xs hsm B T _ h1 hl hat).mono ?_); rintro e w2 ⟨rfl, hb2⟩))
  go_ret2
  exact ⟨rfl, hb1.trans (hb2.mono hz1)⟩

set_option maxHeartbeats 400000 in
theorem sThreadsText_no (u : Value) (xs : List (Int × Int)) (B T : Nat) (w : World) (h : PairsIn 47 w B T u xs) (hT : T ≤ w.heap.size) (hg : ¬ goodT xs) :
    Calls Tryd.prog 8 #[u] w fun e w' => e = .returned (.tuple #[.string ⟨#[]⟩, .bool false]) ∧ Below w.heap.size w w' := by
  go_enter Tryd.func8, Tryd.ntmps8
  go_wp2_with (first | (go_at_call 24; (with_reducible refine (sgGood_no u xs B T _ h hg).mono ?_); rintro e w1 ⟨rfl, hb1⟩))
  go_ret2
  exact ⟨rfl, hb1⟩

set_option maxHeartbeats 1000000 in
theorem core_ThreadsText (v : Value) (xs : List (Int × Int)) (x : ByteArray) (b : Bool) (w : World) (hA : ArgP w v xs) (hn : xs.length ≤ 1048576)
    (hs : ∀ (W : World) (u : Value) (B T : Nat), PairsIn 47 W B T u xs → T ≤ W.heap.size → Calls Tryd.prog 8 #[u] W (fun e w' => e = .returned (.tuple #[.string x, .bool b]) ∧ Below W.heap.size W w'))
    (hn0 : TabW w) (hi : ∀ (W : World) (u : Value) (B T : Nat), TabW W → PairsIn 47 W B T u xs → T ≤ W.heap.size → Calls Tryd.prog 10 #[u] W (fun e w' => e = .returned (.tuple #[.string x, .bool b]) ∧ Below W.heap.size W w')) :
    Calls Tryd.prog 3 #[v] w fun e w' => e = .returned (.bool true) ∧ Below w.heap.size w w' := by
  have hA1 := hA
  obtain ⟨a0, cap, a, rfl, _⟩ := hA1
  have HS := Lib.hid hs
  have HI := Lib.hid hi
  have HN0 := Lib.hid hn0
  clear hn0
  have HA := Lib.hid hA
  clear hs hi hA
  go_enter Tryd.func3, Tryd.ntmps3
  go_wp2_with fail
  refine (szThreadS_yes _ _ _ _ hn).mono ?_
  rintro e w0 ⟨rfl, rfl⟩
  go_wp2_with fail
  refine (toThreadS_any _ _ _ (HA.out.later (by go_grown)) hn).mono ?_
  rintro e w1 ⟨va, rfl, ka_1, hb1⟩
  have n1 : w.heap.size ≤ w1.heap.size := by have := hb1.size; (try simp at this); omega
  have B1 : Below w.heap.size w w1 := Below.trans (by go_grown) (hb1.mono (by first | (simp; done) | (simp; omega)))
  go_wp2_with fail
  refine (HS.out _ _ _ _ ka_1 (by omega)).mono ?_
  rintro e w2 ⟨rfl, hb2⟩
  have n2 := hb2.size
  have B2 := B1.trans (hb2.mono (by omega))
  have ka_2 := ka_1.keep (belowSame hb2 (by omega))
  go_wp2_with fail
  refine (toThreadS_any _ _ _ (HA.out.later B2) hn).mono ?_
  rintro e w3 ⟨vc, rfl, kc_3, hb3⟩
  have n3 := hb3.size
  have B3 := B2.trans (hb3.mono (by omega))
  have ka_3 := ka_2.keep (belowSame hb3 (by omega))
  go_wp2_with fail
  refine (HI.out _ _ _ _ (HN0.out.later B3) kc_3 (by omega)).mono ?_
  rintro e w4 ⟨rfl, hb4⟩
  have n4 := hb4.size
  have B4 := B3.trans (hb4.mono (by omega))
  have ka_4 := ka_3.keep (belowSame hb4 (by omega))
  have kc_4 := kc_3.keep (belowSame hb4 (by omega))
  go_wp2_with fail
  refine (toThreadS_any _ _ _ (HA.out.later B4) hn).mono ?_
  rintro e w5 ⟨vd, rfl, kd_5, hb5⟩
  have n5 := hb5.size
  have B5 := B4.trans (hb5.mono (by omega))
  have ka_5 := ka_4.keep (belowSame hb5 (by omega))
  have kc_5 := kc_4.keep (belowSame hb5 (by omega))
  go_wp2_with fail
  refine (eqThreadS_in _ _ _ _ _ _ _ _ _ kc_5 kd_5).mono ?_
  rintro e w6 ⟨rfl, hb6⟩
  have n6 := hb6.size
  have B6 := B5.trans (hb6.mono (by omega))
  have ka_6 := ka_5.keep (belowSame hb6 (by omega))
  have kc_6 := kc_5.keep (belowSame hb6 (by omega))
  have kd_6 := kd_5.keep (belowSame hb6 (by omega))
  go_wp2_with fail
  go_ret
  exact ⟨rfl, B6⟩

set_option maxHeartbeats 400000 in
theorem long_ThreadsText (v : Value) (xs : List (Int × Int)) (w : World) (hA : ArgP w v xs) (hn : ¬ xs.length ≤ 1048576) :
    Calls Tryd.prog 3 #[v] w fun e w' => e = .returned (.bool true) ∧ Below w.heap.size w w' := by
  obtain ⟨a0, cap, a, rfl, _, hm, _⟩ := hA
  go_enter Tryd.func3, Tryd.ntmps3
  go_wp2_with fail
  refine (szThreadS_no _ _ _ _ (by omega) hm).mono ?_
  rintro e w0 ⟨rfl, rfl⟩
  go_wp2_with fail
  go_ret
  exact ⟨rfl, by go_grown⟩

theorem walk_ThreadsText (v : Value) (xs : List (Int × Int)) (w : World) (hA : ArgP w v xs) (hN : TabW w) :
    Calls Tryd.prog 3 #[v] w fun e w' => e = .returned (.bool true) ∧ Below w.heap.size w w' := by
  by_cases hn : xs.length ≤ 1048576
  · by_cases hg : goodT xs
    · exact core_ThreadsText v xs _ _ w hA hn (fun W u B T h hT => sThreadsText_yes u xs B T W h hT hg) hN (fun W u B T hW h hT => iThreadsText_yes u xs B T W hW h hT hg)
    · exact core_ThreadsText v xs _ _ w hA hn (fun W u B T h hT => sThreadsText_no u xs B T W h hT hg) hN (fun W u B T _ h hT => iThreadsText_no u xs B T W h hT hg)
  · exact long_ThreadsText v xs w hA hn

end Go.Proofs.YtngonpiiehmlaabDoor
