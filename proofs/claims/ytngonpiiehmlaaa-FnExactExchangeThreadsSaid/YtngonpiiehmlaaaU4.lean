/- Threads: whether a list is some, those of the art, those scaled. -/
import Derived.Test.YtngonpiiehmlaaaUGs
import Derived.Test.YtngonpiiehmlaaaUGi
import Derived.Test.YtngonpiiehmlaaaU1
namespace Go.Proofs.Ytngonpiiehmlaaa
open Go.RowKit
set_option linter.unusedVariables false

set_option maxHeartbeats 400000 in
theorem sAreThreads_yes (u : Value) (xs : List (Int × Int)) (B T : Nat) (w : World) (h : PairsIn 37 w B T u xs) (hT : T ≤ w.heap.size) (hg : goodT xs) : Calls Try.prog 16 #[u] w fun e w' => e = .returned (.bool true) ∧ Below w.heap.size w w' := by
  go_enter Try.func16, Try.ntmps16
  go_wp2_with (first | (go_at_call 48; (with_reducible refine (sgGood_yes u xs B T _ h hg).mono ?_); rintro e w1 ⟨rfl, hb1⟩; have h1 := h.keep (belowSame hb1 hT); have hz1 := hb1.size))
  go_ret
  exact ⟨rfl, hb1⟩

set_option maxHeartbeats 400000 in
theorem sAreThreads_no (u : Value) (xs : List (Int × Int)) (B T : Nat) (w : World) (h : PairsIn 37 w B T u xs) (hT : T ≤ w.heap.size) (hg : ¬ goodT xs) : Calls Try.prog 16 #[u] w fun e w' => e = .returned (.bool false) ∧ Below w.heap.size w w' := by
  go_enter Try.func16, Try.ntmps16
  go_wp2_with (first | (go_at_call 48; (with_reducible refine (sgGood_no u xs B T _ h hg).mono ?_); rintro e w1 ⟨rfl, hb1⟩))
  go_ret
  exact ⟨rfl, hb1⟩

set_option maxHeartbeats 1000000 in
theorem core_AreThreads (v : Value) (xs : List (Int × Int)) (b : Bool) (w : World) (hA : ArgP w v xs) (hn : xs.length ≤ 1048576)
    (hs : ∀ (W : World) (u : Value) (B T : Nat), PairsIn 37 W B T u xs → T ≤ W.heap.size → Calls Try.prog 16 #[u] W (fun e w' => e = .returned (.bool b) ∧ Below W.heap.size W w'))
    (hi : ∀ (W : World) (u : Value) (B T : Nat), PairsIn 37 W B T u xs → T ≤ W.heap.size → Calls Try.prog 18 #[u] W (fun e w' => e = .returned (.bool b) ∧ Below W.heap.size W w')) :
    Calls Try.prog 3 #[v] w fun e w' => e = .returned (.bool true) ∧ Below w.heap.size w w' := by
  have hA1 := hA
  obtain ⟨a0, cap, a, rfl, _⟩ := hA1
  have HS := Lib.hid hs
  have HI := Lib.hid hi
  have HA := Lib.hid hA
  clear hs hi hA
  go_enter Try.func3, Try.ntmps3
  go_wp2_with fail
  refine (szThreadS_yes _ _ _ _ hn).mono ?_
  rintro e w0 ⟨rfl, rfl⟩
  go_wp2_with fail
  refine (toThreadS_any _ _ _ (HA.out.later (by go_grown)) hn).mono ?_
  rintro e w1 ⟨va, rfl, ka_1, hb1⟩
  have n1 : w.heap.size ≤ w1.heap.size := by have := hb1.size; (try simp at this); omega
  have B1 : Below w.heap.size w w1 := Below.trans (by go_grown) (hb1.mono (by first | (simp; done) | (simp; omega)))
  go_wp2_with fail
  refine (HS.out _ _ _ _ ka_1 (by omega)).mono ?_
  rintro e w2 ⟨rfl, hb2⟩
  have n2 := hb2.size
  have B2 := B1.trans (hb2.mono (by omega))
  have ka_2 := ka_1.keep (belowSame hb2 (by omega))
  go_wp2_with fail
  refine (toThreadS_any _ _ _ (HA.out.later B2) hn).mono ?_
  rintro e w3 ⟨vc, rfl, kc_3, hb3⟩
  have n3 := hb3.size
  have B3 := B2.trans (hb3.mono (by omega))
  have ka_3 := ka_2.keep (belowSame hb3 (by omega))
  go_wp2_with fail
  refine (HI.out _ _ _ _ kc_3 (by omega)).mono ?_
  rintro e w4 ⟨rfl, hb4⟩
  have n4 := hb4.size
  have B4 := B3.trans (hb4.mono (by omega))
  have ka_4 := ka_3.keep (belowSame hb4 (by omega))
  have kc_4 := kc_3.keep (belowSame hb4 (by omega))
  go_wp2_with fail
  refine (toThreadS_any _ _ _ (HA.out.later B4) hn).mono ?_
  rintro e w5 ⟨vd, rfl, kd_5, hb5⟩
  have n5 := hb5.size
  have B5 := B4.trans (hb5.mono (by omega))
  have ka_5 := ka_4.keep (belowSame hb5 (by omega))
  have kc_5 := kc_4.keep (belowSame hb5 (by omega))
  go_wp2_with fail
  refine (eqThreadS_in _ _ _ _ _ _ _ _ _ kc_5 kd_5).mono ?_
  rintro e w6 ⟨rfl, hb6⟩
  have n6 := hb6.size
  have B6 := B5.trans (hb6.mono (by omega))
  have ka_6 := ka_5.keep (belowSame hb6 (by omega))
  have kc_6 := kc_5.keep (belowSame hb6 (by omega))
  have kd_6 := kd_5.keep (belowSame hb6 (by omega))
  go_wp2_with fail
  go_ret
  exact ⟨rfl, B6⟩

set_option maxHeartbeats 400000 in
theorem long_AreThreads (v : Value) (xs : List (Int × Int)) (w : World) (hA : ArgP w v xs) (hn : ¬ xs.length ≤ 1048576) :
    Calls Try.prog 3 #[v] w fun e w' => e = .returned (.bool true) ∧ Below w.heap.size w w' := by
  obtain ⟨a0, cap, a, rfl, _, hm, _⟩ := hA
  go_enter Try.func3, Try.ntmps3
  go_wp2_with fail
  refine (szThreadS_no _ _ _ _ (by omega) hm).mono ?_
  rintro e w0 ⟨rfl, rfl⟩
  go_wp2_with fail
  go_ret
  exact ⟨rfl, by go_grown⟩

theorem walk_AreThreads (v : Value) (xs : List (Int × Int)) (w : World) (hA : ArgP w v xs) :
    Calls Try.prog 3 #[v] w fun e w' => e = .returned (.bool true) ∧ Below w.heap.size w w' := by
  by_cases hn : xs.length ≤ 1048576
  · by_cases hg : goodT xs
    · exact core_AreThreads v xs _ w hA hn (fun W u B T h hT => sAreThreads_yes u xs B T W h hT hg) (fun W u B T h hT => AreThreads_yes u xs B T W h hg)
    · exact core_AreThreads v xs _ w hA hn (fun W u B T h hT => sAreThreads_no u xs B T W h hT hg) (fun W u B T h hT => AreThreads_no u xs B T W h hg)
  · exact long_AreThreads v xs w hA hn

/-! the art -/
/-- The thread from a nail on. -/
def artP (n i : Nat) : Int × Int := ((i : Int) + 1, (n : Int) - i)

def artL (n k : Nat) : List (Int × Int) := (List.range k).map (artP n)

theorem artL_succ (n k : Nat) : artL n (k + 1) = artL n k ++ [((k : Int) + 1, (n : Int) - k)] := by
  simp [artL, List.range_succ, artP]

theorem artL_length (n k : Nat) : (artL n k).length = k := by simp [artL]

set_option maxHeartbeats 400000 in
theorem sArtThreads_yes (n : Nat) (w : World) (h : 1 ≤ n ∧ n ≤ 30) :
    Calls Try.prog 20 #[.int .i64 n] w (Gives (PairsIn 37) w (artL n n) true) := by
  go_enter Try.func20, Try.ntmps20
  go_wp2_with (first | (go_at_call 52; (with_reducible refine (l1In_yes _ _ _ _ (by omega)).mono ?_); rintro e w1 ⟨rfl, rfl⟩))
  go_loopw [4, 5] (fun u i wr => ∃ k : Nat, k ≤ n ∧ i = .int .i64 ((k + 1 : Nat) : Int) ∧ Pairs wr w.heap.size 37 u (artL n k) ∧ Below w.heap.size w wr) (fun _ i _ => n + 1 - (intOf i).toNat)
  case atStart => exact ⟨0, by omega, rfl, World.ownsRow_nil _ _ _ _, Below.refl _ _⟩
  case round =>
    obtain ⟨k, hk, rfl, hI, hB⟩ := hrel
    have HI := Lib.hid hI
    have hz := hB.size
    have hl := artL_length n k
    clear hI
    by_cases hlt : k < n
    · have HS := Lib.hid (artL_succ n k)
      have hw1 : IntKind.i64.wrap ((n : Int) + 1) = (n : Int) + 1 := by rw [IntKind.wrap_i64]; omega
      have hw2 : IntKind.i64.wrap ((n : Int) + 1 - ((k : Int) + 1)) = (n : Int) - k := by rw [IntKind.wrap_i64]; omega
      go_wp2_with (first
        | (at_builtin; refine wpList_append_pair rfl _ _ 25 rfl w.heap.size 37 Try.underlying25 info_thread _ (artL n k) rfl HI.out ((k : Int) + 1) ((n : Int) - k) rfl (by omega) hz ?_; intro v' w' hI' hg'; have hB' := Pairs.below HI.out hB hz hg'; rw [← HS.out] at hI'; have HI' := Lib.hid hI'; clear hI'))
      go_roundw
      case rel => exact ⟨k + 1, by omega, by go_num, HI'.out, hB'⟩
      case measure => simp [intOf]; omega
    · obtain rfl : k = n := by omega
      go_wp2
      go_ret2
      exact ⟨_, rfl, HI.out.inn, hB⟩

set_option maxHeartbeats 400000 in
theorem sArtThreads_no (n : Int) (w : World) (h : ¬ (1 ≤ n ∧ n ≤ 30)) :
    Calls Try.prog 20 #[.int .i64 n] w (Gives (PairsIn 37) w [] false) := by
  go_enter Try.func20, Try.ntmps20
  go_wp2_with (first | (go_at_call 52; (with_reducible refine (l1In_no _ _ _ _ h).mono ?_); rintro e w1 ⟨rfl, rfl⟩))
  go_ret2
  exact ⟨_, rfl, PairsIn.nil _ _ _ _, Below.refl _ _⟩

set_option maxHeartbeats 400000 in
theorem iArtThreads_yes (n : Nat) (w : World) (h : 1 ≤ n ∧ n ≤ 30) :
    Calls Try.prog 21 #[.int .i64 n] w (Gives (PairsIn 37) w (artL n n) true) := by
  have h1 := h.1
  have h2 := h.2
  have hmk := make_pairs (P := Try.prog) Try.underlying25 info_thread n (by omega)
  clear h
  go_enter Try.func21, Try.ntmps21
  go_wp2
  go_loopw [16] (fun i wr => ∃ k : Nat, k ≤ n ∧ i = .int .i64 k ∧ Pairs wr w.heap.size 37 (.slice (some ⟨w.heap.size, 0, none⟩) n n) (fillG (artP n) (0, 0) n k) ∧ Below w.heap.size w wr ∧ w.heap.size < wr.heap.size) (fun i _ => n - (intOf i).toNat)
  case atStart => exact ⟨0, by omega, rfl, by rw [fillG_zero]; exact Pairs.made w w.heap.size _ n (Nat.le_refl _) (by omega), by go_grown, by simp⟩
  case round =>
    obtain ⟨k, hk, rfl, hI, hB, hz⟩ := hrel
    by_cases hlt : k < n
    · have HF := Lib.hid (fillG_set (artP n) (0, 0) n k hlt)
      have HS := Lib.hid (hI.stored k (by rw [fillG_length _ _ _ _ hk]; omega) ((k : Int) + 1) ((n : Int) - k))
      have d0 := hI.cell0 k (by rw [fillG_length _ _ _ _ hk]; omega)
      have d1 := hI.cell1 k (by rw [fillG_length _ _ _ _ hk]; omega)
      have f0 := hI.frozenAt (k * 2)
      have f1 := hI.frozenAt (k * 2 + 1)
      have HB3 := Lib.hid (hI.below hB (by omega) HS.out.2)
      have hw1 : IntKind.i64.wrap ((k : Int) + 1) = (k : Int) + 1 := by rw [IntKind.wrap_i64]; omega
      have hw2 : IntKind.i64.wrap ((n : Int) - (k : Int)) = (n : Int) - k := by rw [IntKind.wrap_i64]; omega
      clear hI hB
      go_wp2
      go_roundw
      case rel => exact ⟨k + 1, by omega, by go_num, by rw [← HF.out]; exact HS.out.1, HB3.out, by simp; omega⟩
      case measure => simp [intOf]; omega
    · obtain rfl : k = n := by omega
      rw [fillG_all] at hI
      go_wp2
      go_ret2
      exact ⟨_, rfl, hI.inn, hB⟩

set_option maxHeartbeats 400000 in
theorem iArtThreads_no (n : Int) (w : World) (h : ¬ (1 ≤ n ∧ n ≤ 30)) :
    Calls Try.prog 21 #[.int .i64 n] w (Gives (PairsIn 37) w [] false) := by
  by_cases h1 : n < 1
  · clear h
    go_enter Try.func21, Try.ntmps21
    go_wp2
    go_ret2
    exact ⟨_, rfl, PairsIn.nil _ _ _ _, Below.refl _ _⟩
  · have h2 : 30 < n := by omega
    clear h
    go_enter Try.func21, Try.ntmps21
    go_wp2
    go_ret2
    exact ⟨_, rfl, PairsIn.nil _ _ _ _, Below.refl _ _⟩

set_option maxHeartbeats 400000 in
theorem core_ArtThreads (n : Int) (x : List (Int × Int))  (b : Bool) (w : World) (hx : x.length ≤ 1000000)
    (hs : ∀ W, Calls Try.prog 20 #[.int .i64 n] W (Gives (PairsIn 37) W x b)) (hi : ∀ W, Calls Try.prog 21 #[.int .i64 n] W (Gives (PairsIn 37) W x b)) :
    Calls Try.prog 4 #[.int .i64 n] w fun e w' => e = .returned (.bool true) ∧ Below w.heap.size w w' := by
  have HS := Lib.hid hs
  have HI := Lib.hid hi
  clear hs hi
  go_enter Try.func4, Try.ntmps4
  go_wp2_with fail
  refine (HS.out _).mono ?_
  rintro e w1 ⟨vw, rfl, kw_1, hb1⟩
  have n1 : w.heap.size ≤ w1.heap.size := by have := hb1.size; (try simp at this); omega
  have B1 : Below w.heap.size w w1 := Below.trans (by go_grown) (hb1.mono (by first | (simp; done) | (simp; omega)))
  go_wp2_with fail
  refine (HI.out _).mono ?_
  rintro e w2 ⟨vg, rfl, kg_2, hb2⟩
  have n2 := hb2.size
  have B2 := B1.trans (hb2.mono (by omega))
  have kw_2 := kw_1.keep (belowSame hb2 (by omega))
  go_wp2_with fail
  refine (eqThreadS_in _ _ _ _ _ _ _ _ _ kg_2 kw_2).mono ?_
  rintro e w3 ⟨rfl, hb3⟩
  have n3 := hb3.size
  have B3 := B2.trans (hb3.mono (by omega))
  have kw_3 := kw_2.keep (belowSame hb3 (by omega))
  have kg_3 := kg_2.keep (belowSame hb3 (by omega))
  go_wp2_with fail
  refine (markThreadS_in _ _ 1 _ _ _ _ kg_3 (by omega) (by omega) (by omega)).mono ?_
  rintro e w4 ⟨rfl, mg_4, o4⟩
  have n4 := o4.size
  have B4 := B3.trans (o4.below (C := w.heap.size) (by omega) (by omega))
  have kw_4 := kw_3.keep (o4.same_in (by omega) (by omega))
  have kg_4 := mg_4
  go_wp2_with fail
  refine (heldThreadS_in _ 1 _ _ _ _ _ kg_4 (by omega) (by omega) (by omega)).mono ?_
  rintro e w5 ⟨rfl, hb5⟩
  have n5 := hb5.size
  have B5 := B4.trans (hb5.mono (by omega))
  have kw_5 := kw_4.keep (belowSame hb5 (by omega))
  have kg_5 := kg_4.keep (belowSame hb5 (by omega))
  go_wp2_with fail
  refine (HI.out _).mono ?_
  rintro e w6 ⟨vh, rfl, kh_6, hb6⟩
  have n6 := hb6.size
  have B6 := B5.trans (hb6.mono (by omega))
  have kw_6 := kw_5.keep (belowSame hb6 (by omega))
  have kg_6 := kg_5.keep (belowSame hb6 (by omega))
  go_wp2_with fail
  refine (eqThreadS_in _ _ _ _ _ _ _ _ _ kh_6 kw_6).mono ?_
  rintro e w7 ⟨rfl, hb7⟩
  have n7 := hb7.size
  have B7 := B6.trans (hb7.mono (by omega))
  have kw_7 := kw_6.keep (belowSame hb7 (by omega))
  have kg_7 := kg_6.keep (belowSame hb7 (by omega))
  have kh_7 := kh_6.keep (belowSame hb7 (by omega))
  go_wp2_with fail
  refine (heldThreadS_in _ 1 _ _ _ _ _ kg_7 (by omega) (by omega) (by omega)).mono ?_
  rintro e w8 ⟨rfl, hb8⟩
  have n8 := hb8.size
  have B8 := B7.trans (hb8.mono (by omega))
  have kw_8 := kw_7.keep (belowSame hb8 (by omega))
  have kg_8 := kg_7.keep (belowSame hb8 (by omega))
  have kh_8 := kh_7.keep (belowSame hb8 (by omega))
  go_wp2_with fail
  go_ret
  exact ⟨rfl, B8⟩

theorem walk_ArtThreads (n : Int) (w : World) (_ : (Lit.int .i64 n).wf = true) :
    Calls Try.prog 4 #[.int .i64 n] w fun e w' => e = .returned (.bool true) ∧ Below w.heap.size w w' := by
  by_cases h : 1 ≤ n ∧ n ≤ 30
  · obtain ⟨n, rfl⟩ := Int.eq_ofNat_of_zero_le (show 0 ≤ n by omega)
    have h1 : 1 ≤ n ∧ n ≤ 30 := by omega
    exact core_ArtThreads _ _ true w (by have := artL_length n n; omega) (fun W => sArtThreads_yes n W h1) (fun W => iArtThreads_yes n W h1)
  · exact core_ArtThreads _ [] false w (by simp) (fun W => sArtThreads_no _ W h) (fun W => iArtThreads_no _ W h)

end Go.Proofs.Ytngonpiiehmlaaa
