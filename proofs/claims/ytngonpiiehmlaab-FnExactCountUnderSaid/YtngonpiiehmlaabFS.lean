/- Points under threads, counted: the model, and the law. -/
import Derived.Test.YtngonpiiehmlaabFR
namespace Go.Proofs.Ytngonpiiehmlaab
open Go.RowKit
set_option linter.unusedVariables false

set_option maxHeartbeats 2000000 in
theorem sCountUnder_yes (u : Value) (xs : List (Int × Int)) (B T : Nat) (w : World) (h : PairsIn 55 w B T u xs) (hT : T ≤ w.heap.size) (hg : goodT xs) :
    Calls Try.prog 25 #[u] w fun e w' => e = .returned (.tuple #[.int .i64 (cuT xs 100 : Nat), .bool true]) ∧ Below w.heap.size w w' := by
  have HG := Lib.hid hg
  have HU := Lib.hid h
  obtain ⟨a1, c1, g1, rfl, _⟩ := h.pairs.view
  have hgm := hg.mem
  obtain ⟨S, hS⟩ : ∃ S : Nat → Nat, S = cuT xs := ⟨_, rfl⟩
  obtain ⟨C, hC⟩ : ∃ C : Nat → Nat, C = fun k => colT ((k + 1 : Nat) : Int) xs := ⟨_, rfl⟩
  have SS := Lib.hid (show ∀ k, S (k + 1) = S k + (C k - 1) from fun k => by rw [hS, hC]; rfl)
  have SL := Lib.hid (show ∀ k, S k ≤ k * 100 from fun k => by rw [hS]; exact cuT_le hgm k)
  have CL := Lib.hid (show ∀ k, C k ≤ 101 from fun k => by rw [hC]; exact colT_le hgm (by omega))
  have CX := Lib.hid (show ∀ k m : Nat, xs.any (underP ((k + 1 : Nat) : Int) ((m + 1 : Nat) : Int)) = decide (m + 1 < C k) from fun k m => by
    rw [any_colT _ _ (by omega) (by omega) xs hgm, hC, decide_eq_decide]
    simp only
    omega)
  have s0 : S 0 = 0 := by rw [hS]; rfl
  rw [← hS]
  clear h hg hS hC hgm
  go_enter Try.func25, Try.ntmps25
  go_wp2_with (first | (go_at_call 35; (with_reducible refine (sgGood_yes _ _ B T _ HU.out HG.out).mono ?_); rintro e w0 ⟨rfl, hb0⟩))
  go_loopw [4, 5] (fun c i wr => ∃ k : Nat, k ≤ 100 ∧ i = .int .i64 ((k + 1 : Nat) : Int) ∧ c = .int .i64 (S k : Nat) ∧ Below w.heap.size w wr) (fun _ i _ => 101 - (intOf i).toNat)
  case atStart => exact ⟨0, by omega, rfl, by rw [s0]; rfl, hb0⟩
  case round =>
    obtain ⟨wo, rfl⟩ : ∃ z, z = wr := ⟨wr, rfl⟩
    obtain ⟨k, hk, rfl, rfl, hB⟩ := hrel
    obtain ⟨x, hx⟩ : ∃ x : Int, x = ((k + 1 : Nat) : Int) := ⟨_, rfl⟩
    rw [← hx]
    have hxw : IntKind.i64.wrap (x + 1) = x + 1 := by rw [IntKind.wrap_i64]; omega
    by_cases hlt : k < 100
    · have hx2 : x ≤ 100 := by omega
      have hx0 : 0 ≤ x := by omega
      have HXX := Lib.hid hx
      have hst := SS.out k
      have l1 := SL.out k
      have l2 := CL.out k
      obtain ⟨s, hs⟩ : ∃ s, S k = s := ⟨_, rfl⟩
      obtain ⟨c, hc⟩ : ∃ c, C k = c := ⟨_, rfl⟩
      rw [hs] at hst l1 ⊢
      rw [hc] at hst l2
      have HST := Lib.hid hst
      have HA := Lib.hid (fun m : Nat => show xs.any (underP x ((m + 1 : Nat) : Int)) = decide (m + 1 < c) by rw [hx, CX.out k m, hc])
      have hs1 : s ≤ 10000 := by omega
      clear hst hs hc hx l1
      go_wp2
      go_loopw [4, 6] (fun n j wr => ∃ m : Nat, m ≤ 100 ∧ j = .int .i64 ((m + 1 : Nat) : Int) ∧ n = .int .i64 ((s + min m (c - 1) : Nat) : Int) ∧ Below w.heap.size w wr) (fun _ j _ => 101 - (intOf j).toNat)
      case atStart => exact ⟨0, by omega, rfl, by simp, hB⟩
      case round =>
        obtain ⟨m, hm, rfl, rfl, hBj⟩ := hrel
        have HUj := Lib.hid (HU.out.keep (belowSame hBj hT))
        have hzj := hBj.size
        obtain ⟨y, hy⟩ : ∃ y : Int, y = ((m + 1 : Nat) : Int) := ⟨_, rfl⟩
        rw [← hy]
        have hyw : IntKind.i64.wrap (y + 1) = y + 1 := by rw [IntKind.wrap_i64]; omega
        obtain ⟨n, hn⟩ : ∃ n, s + min m (c - 1) = n := ⟨_, rfl⟩
        rw [hn]
        have hnw : IntKind.i64.wrap ((n : Int) + 1) = ((n + 1 : Nat) : Int) := by rw [IntKind.wrap_i64]; omega
        have HN := Lib.hid hn
        by_cases hlm : m < 100
        · have hy2 : y ≤ 100 := by omega
          have hy0 : 0 ≤ y := by omega
          have ha := HA.out m
          rw [← hy] at ha
          have HY := Lib.hid hy
          by_cases hd : m + 1 < c
          · rw [decide_eq_true hd] at ha
            have HAA := Lib.hid ha
            have HD := Lib.hid hd
            clear ha hd hn hy
            go_wp2_with (first | (go_at_call 48; (refine (sgUnder_any _ xs B T _ HUj.out (by omega) x y HG.out ⟨hx0, hx2⟩ ⟨hy0, hy2⟩).mono ?_); rintro e w1 ⟨rfl, hb⟩; rw [HAA.out]))
            go_roundw
            case rel => exact ⟨m + 1, by omega, by rw [HY.out]; rfl, by have := HN.out; have := HD.out; congr 1; omega, hBj.trans (hb.mono hzj)⟩
            case measure => simp [intOf]; have := HY.out; omega
          · rw [decide_eq_false hd] at ha
            have HAA := Lib.hid ha
            have HD := Lib.hid hd
            clear ha hd hn hy
            go_wp2_with (first | (go_at_call 48; (refine (sgUnder_any _ xs B T _ HUj.out (by omega) x y HG.out ⟨hx0, hx2⟩ ⟨hy0, hy2⟩).mono ?_); rintro e w1 ⟨rfl, hb⟩; rw [HAA.out]))
            go_roundw
            case rel => exact ⟨m + 1, by omega, by rw [HY.out]; rfl, by have := HN.out; have := HD.out; congr 1; omega, hBj.trans (hb.mono hzj)⟩
            case measure => simp [intOf]; have := HY.out; omega
        · have hy2 : ¬ y ≤ 100 := by omega
          clear hn
          go_wp2
          go_roundw
          case rel => exact ⟨k + 1, by omega, by rw [HXX.out]; rfl, by have := HN.out; have := HST.out; congr 1; omega, hBj⟩
          case measure => simp [intOf]; have := HXX.out; omega
    · obtain rfl : k = 100 := by omega
      have hx2 : ¬ x ≤ 100 := by omega
      clear hx
      go_wp2
      go_ret2
      exact ⟨rfl, hB⟩

set_option maxHeartbeats 1000000 in
theorem iCountUnder_no (u : Value) (xs : List (Int × Int)) (B T : Nat) (w : World) (h : PairsIn 55 w B T u xs) (hT : T ≤ w.heap.size) (hg : ¬ goodT xs) :
    Calls Try.prog 26 #[u] w fun e w' => e = .returned (.tuple #[.int .i64 0, .bool false]) ∧ Below w.heap.size w w' := by
  go_enter Try.func26, Try.ntmps26
  go_wp2_with (first | (go_at_call 39; (with_reducible refine (AreThreads_no u xs B T _ h hg).mono ?_); rintro e w1 ⟨rfl, hb1⟩))
  go_ret2
  exact ⟨rfl, hb1⟩

set_option maxHeartbeats 1000000 in
theorem sCountUnder_no (u : Value) (xs : List (Int × Int)) (B T : Nat) (w : World) (h : PairsIn 55 w B T u xs) (hT : T ≤ w.heap.size) (hg : ¬ goodT xs) :
    Calls Try.prog 25 #[u] w fun e w' => e = .returned (.tuple #[.int .i64 0, .bool false]) ∧ Below w.heap.size w w' := by
  go_enter Try.func25, Try.ntmps25
  go_wp2_with (first | (go_at_call 35; (with_reducible refine (sgGood_no u xs B T _ h hg).mono ?_); rintro e w1 ⟨rfl, hb1⟩))
  go_ret2
  exact ⟨rfl, hb1⟩

set_option maxHeartbeats 1000000 in
theorem core_CountUnder (v : Value) (xs : List (Int × Int)) (x : Int) (b : Bool) (w : World) (hA : ArgP w v xs) (hn : xs.length ≤ 1048576)
    (hs : ∀ (W : World) (u : Value) (B T : Nat), PairsIn 55 W B T u xs → T ≤ W.heap.size → Calls Try.prog 25 #[u] W (fun e w' => e = .returned (.tuple #[.int .i64 x, .bool b]) ∧ Below W.heap.size W w'))
    (hi : ∀ (W : World) (u : Value) (B T : Nat), PairsIn 55 W B T u xs → T ≤ W.heap.size → Calls Try.prog 26 #[u] W (fun e w' => e = .returned (.tuple #[.int .i64 x, .bool b]) ∧ Below W.heap.size W w')) :
    Calls Try.prog 6 #[v] w fun e w' => e = .returned (.bool true) ∧ Below w.heap.size w w' := by
  have hA1 := hA
  obtain ⟨a0, cap, a, rfl, _⟩ := hA1
  have HS := Lib.hid hs
  have HI := Lib.hid hi
  have HA := Lib.hid hA
  clear hs hi hA
  go_enter Try.func6, Try.ntmps6
  go_wp2_with fail
  refine (szThreadS_yes _ _ _ _ hn).mono ?_
  rintro e w0 ⟨rfl, rfl⟩
  go_wp2_with fail
  refine (toThreadS_any _ _ _ (HA.out.later (by go_grown)) hn).mono ?_
  rintro e w1 ⟨va, rfl, ka_1, hb1⟩
  have n1 : w.heap.size ≤ w1.heap.size := by have := hb1.size; (try simp at this); omega
  have B1 : Below w.heap.size w w1 := Below.trans (by go_grown) (hb1.mono (by first | (simp; done) | (simp; omega)))
  go_wp2_with fail
  refine (HS.out _ _ _ _ ka_1 (by omega)).mono ?_
  rintro e w2 ⟨rfl, hb2⟩
  have n2 := hb2.size
  have B2 := B1.trans (hb2.mono (by omega))
  have ka_2 := ka_1.keep (belowSame hb2 (by omega))
  go_wp2_with fail
  refine (toThreadS_any _ _ _ (HA.out.later B2) hn).mono ?_
  rintro e w3 ⟨vc, rfl, kc_3, hb3⟩
  have n3 := hb3.size
  have B3 := B2.trans (hb3.mono (by omega))
  have ka_3 := ka_2.keep (belowSame hb3 (by omega))
  go_wp2_with fail
  refine (HI.out _ _ _ _ kc_3 (by omega)).mono ?_
  rintro e w4 ⟨rfl, hb4⟩
  have n4 := hb4.size
  have B4 := B3.trans (hb4.mono (by omega))
  have ka_4 := ka_3.keep (belowSame hb4 (by omega))
  have kc_4 := kc_3.keep (belowSame hb4 (by omega))
  go_wp2_with fail
  refine (toThreadS_any _ _ _ (HA.out.later B4) hn).mono ?_
  rintro e w5 ⟨vd, rfl, kd_5, hb5⟩
  have n5 := hb5.size
  have B5 := B4.trans (hb5.mono (by omega))
  have ka_5 := ka_4.keep (belowSame hb5 (by omega))
  have kc_5 := kc_4.keep (belowSame hb5 (by omega))
  go_wp2_with fail
  refine (eqThreadS_in _ _ _ _ _ _ _ _ _ kc_5 kd_5).mono ?_
  rintro e w6 ⟨rfl, hb6⟩
  have n6 := hb6.size
  have B6 := B5.trans (hb6.mono (by omega))
  have ka_6 := ka_5.keep (belowSame hb6 (by omega))
  have kc_6 := kc_5.keep (belowSame hb6 (by omega))
  have kd_6 := kd_5.keep (belowSame hb6 (by omega))
  go_wp2_with fail
  go_ret
  exact ⟨rfl, B6⟩

set_option maxHeartbeats 400000 in
theorem long_CountUnder (v : Value) (xs : List (Int × Int)) (w : World) (hA : ArgP w v xs) (hn : ¬ xs.length ≤ 1048576) :
    Calls Try.prog 6 #[v] w fun e w' => e = .returned (.bool true) ∧ Below w.heap.size w w' := by
  obtain ⟨a0, cap, a, rfl, _, hm, _⟩ := hA
  go_enter Try.func6, Try.ntmps6
  go_wp2_with fail
  refine (szThreadS_no _ _ _ _ (by omega) hm).mono ?_
  rintro e w0 ⟨rfl, rfl⟩
  go_wp2_with fail
  go_ret
  exact ⟨rfl, by go_grown⟩

theorem walk_CountUnder (v : Value) (xs : List (Int × Int)) (w : World) (hA : ArgP w v xs) :
    Calls Try.prog 6 #[v] w fun e w' => e = .returned (.bool true) ∧ Below w.heap.size w w' := by
  by_cases hn : xs.length ≤ 1048576
  · by_cases hg : goodT xs
    · exact core_CountUnder v xs _ _ w hA hn (fun W u B T h hT => sCountUnder_yes u xs B T W h hT hg) (fun W u B T h hT => iCountUnder_yes u xs B T W h hT hg)
    · exact core_CountUnder v xs _ _ w hA hn (fun W u B T h hT => sCountUnder_no u xs B T W h hT hg) (fun W u B T h hT => iCountUnder_no u xs B T W h hT hg)
  · exact long_CountUnder v xs w hA hn

end Go.Proofs.Ytngonpiiehmlaab
