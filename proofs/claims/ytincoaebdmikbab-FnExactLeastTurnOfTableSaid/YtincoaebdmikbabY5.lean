/- TurnChords and MirrorChords: the laws. -/
import Derived.Test.YtincoaebdmikbabY4
namespace Go.Proofs.Ytincoaebdmikbab
open Go.RowKit
set_option linter.unusedVariables false

set_option maxHeartbeats 400000 in
theorem sTurnChords_yes (p k : Int) (u : Value) (xs : List (Int × Int)) (B T : Nat) (w : World) (h : PairsIn 56 w B T u xs) (hT : T ≤ w.heap.size) (hg : goodC p xs) (hk : 0 ≤ k ∧ k < p) :
    Calls Try.prog 26 #[.int .i64 p, u, .int .i64 k] w (Gives (PairsIn 56) w (putAll [] (xs.map (retC (fun a => (a + k) % p)))) true) := by
  have hp := hg.1
  have HH := Lib.hid h
  obtain ⟨a1, c1, g1, rfl, _, hm, _⟩ := h.pairs.view
  have HG := Lib.hid hg
  clear h hg
  go_enter Try.func26, Try.ntmps26
  go_wp2_with (first | (go_at_call 50; (with_reducible refine (cdGood_yes p _ xs B T _ HH.out HG.out).mono ?_); rintro e w1 ⟨rfl, hb1⟩) | (go_at_call 51; (with_reducible refine (l1In_yes _ _ _ _ (by omega)).mono ?_); rintro e w2 ⟨rfl, rfl⟩) | (go_at_call 45; (refine (cdTurn_any p k _ xs B T _ (HH.out.keep (belowSame hb1 hT)) (Nat.le_trans hT hb1.size) (good_wide HG.out) hk).mono ?_); rintro e w2 ⟨v, rfl, hp2, hb2⟩))
  go_ret2
  exact givePairs2 true hp2 hb1.size (hb1.trans (hb2.mono hb1.size))

set_option maxHeartbeats 400000 in
theorem turned_any (p k : Int) (u : Value) (xs : List (Int × Int)) (B T : Nat) (w : World) (h : PairsIn 56 w B T u xs) (hT : T ≤ w.heap.size) (hg : goodW p xs) (hk : 0 ≤ k ∧ k < p) :
    Calls Try.prog 47 #[.int .i64 p, u, .int .i64 k] w fun e w' => ∃ v, e = .returned v ∧ PairsIn 56 w' w.heap.size w'.heap.size v (sortL (xs.map (retC (fun a => (a + k) % p)))) ∧ Below w.heap.size w w' := by
  have hp := hg.1
  have HH := Lib.hid h
  obtain ⟨a1, c1, g1, rfl, _, hm, _⟩ := h.pairs.view
  have HG := Lib.hid hg
  clear h hg
  go_enter Try.func47, Try.ntmps47
  go_wp2_with (first
    | (go_at_call 62; (refine (retold_turn p k (w.heap.size + 1) w.heap.size _ xs B T _ (HH.out.keep (belowSame (by go_grown) hT)) HG.out hk (by go_simp) (by go_simp)).mono ?_); rintro e w2 ⟨v, rfl, hp2, hb2⟩))
  go_ret
  exact ⟨_, rfl, hp2.wider (by simp; omega) (Nat.le_refl _), Below.trans (show Below w.heap.size w _ from by go_grown) (hb2.mono (by simp; omega))⟩

set_option maxHeartbeats 400000 in
theorem iTurnChords_yes (p k : Int) (u : Value) (xs : List (Int × Int)) (B T : Nat) (w : World) (h : PairsIn 56 w B T u xs) (hT : T ≤ w.heap.size) (hg : goodC p xs) (hk : 0 ≤ k ∧ k < p) :
    Calls Try.prog 28 #[.int .i64 p, u, .int .i64 k] w (Gives (PairsIn 56) w (putAll [] (xs.map (retC (fun a => (a + k) % p)))) true) := by
  have hp := hg.1
  have HH := Lib.hid h
  obtain ⟨a1, c1, g1, rfl, _, hm, _⟩ := h.pairs.view
  have HG := Lib.hid hg
  have HE := Lib.hid (ret_same (good_wide hg) (fun a => (a + k) % p) (turn_inj p k (by omega)))
  clear h hg
  go_enter Try.func28, Try.ntmps28
  go_wp2_with (first
    | (go_at_call 53; (refine (AreChords_yes p _ xs B T _ (HH.out.keep (belowSame (by go_grown) hT)) HG.out).mono ?_); rintro e w1 ⟨rfl, hb1⟩; (have B1 : Below w.heap.size w w1 := Below.trans (by go_grown) (hb1.mono (by first | (simp; done) | (simp; omega)))); have n1 := B1.size; clear hb1)
    | (go_at_call 54; (with_reducible refine (isPoint_yes _ _ _ hk).mono ?_); rintro e w1 ⟨rfl, rfl⟩)
    | (go_at_call 47; (refine (turned_any p k _ xs B T _ (HH.out.keep (belowSame B1 hT)) (Nat.le_trans hT n1) (good_wide HG.out) hk).mono ?_); rintro e w2 ⟨v, rfl, hp2, hb2⟩))
  go_ret2
  exact givePairs2 true (by rw [← HE.out]; exact hp2) n1 (B1.trans (hb2.mono n1))

set_option maxHeartbeats 400000 in
theorem sTurnChords_no (p k : Int) (u : Value) (xs : List (Int × Int)) (B T : Nat) (w : World) (h : PairsIn 56 w B T u xs) (hT : T ≤ w.heap.size) (hg : ¬ (goodC p xs ∧ 0 ≤ k ∧ k < p)) :
    Calls Try.prog 26 #[.int .i64 p, u, .int .i64 k] w (Gives (PairsIn 56) w [] false) := by
  have HH := Lib.hid h
  obtain ⟨a1, c1, g1, rfl, _, hm, _⟩ := h.pairs.view
  by_cases hgg : goodC p xs
  · have hp := hgg.1
    have hk : ¬ (0 ≤ k ∧ k ≤ p - 1) := fun hk => hg ⟨hgg, by omega⟩
    have HK := Lib.hid hk
    have HG := Lib.hid hgg
    clear h hg hgg hk
    go_enter Try.func26, Try.ntmps26
    go_wp2_with (first | (go_at_call 50; (with_reducible refine (cdGood_yes p _ xs B T _ HH.out HG.out).mono ?_); rintro e w1 ⟨rfl, hb1⟩) | (go_at_call 51; (with_reducible refine (l1In_no _ _ _ _ HK.out).mono ?_); rintro e w2 ⟨rfl, rfl⟩))
    go_ret2
    exact ⟨_, rfl, PairsIn.nil _ _ _ _, hb1⟩
  · have HG := Lib.hid hgg
    clear h hg hgg
    go_enter Try.func26, Try.ntmps26
    go_wp2_with (first | (go_at_call 50; (with_reducible refine (cdGood_no p _ xs B T _ HH.out HG.out).mono ?_); rintro e w1 ⟨rfl, hb1⟩))
    go_ret2
    exact ⟨_, rfl, PairsIn.nil _ _ _ _, hb1⟩

set_option maxHeartbeats 400000 in
theorem iTurnChords_no (p k : Int) (u : Value) (xs : List (Int × Int)) (B T : Nat) (w : World) (h : PairsIn 56 w B T u xs) (hT : T ≤ w.heap.size) (hg : ¬ (goodC p xs ∧ 0 ≤ k ∧ k < p)) :
    Calls Try.prog 28 #[.int .i64 p, u, .int .i64 k] w (Gives (PairsIn 56) w [] false) := by
  have HH := Lib.hid h
  obtain ⟨a1, c1, g1, rfl, _, hm, _⟩ := h.pairs.view
  by_cases hgg : goodC p xs
  · have hk : ¬ (0 ≤ k ∧ k < p) := fun hk => hg ⟨hgg, hk⟩
    have HK := Lib.hid hk
    have HG := Lib.hid hgg
    clear h hg hgg hk
    go_enter Try.func28, Try.ntmps28
    go_wp2_with (first | (go_at_call 53; (refine (AreChords_yes p _ xs B T _ (HH.out.keep (belowSame (by go_grown) hT)) HG.out).mono ?_); rintro e w1 ⟨rfl, hb1⟩; (have B1 : Below w.heap.size w w1 := Below.trans (by go_grown) (hb1.mono (by first | (simp; done) | (simp; omega)))); have n1 := B1.size; clear hb1) | (go_at_call 54; (with_reducible refine (isPoint_no _ _ _ HK.out).mono ?_); rintro e w1 ⟨rfl, rfl⟩))
    go_ret2
    exact ⟨_, rfl, PairsIn.nil _ _ _ _, B1⟩
  · have HG := Lib.hid hgg
    clear h hg hgg
    go_enter Try.func28, Try.ntmps28
    go_wp2_with (first | (go_at_call 53; (refine (AreChords_no p _ xs B T _ (HH.out.keep (belowSame (by go_grown) hT)) HG.out).mono ?_); rintro e w1 ⟨rfl, hb1⟩; (have B1 : Below w.heap.size w w1 := Below.trans (by go_grown) (hb1.mono (by first | (simp; done) | (simp; omega)))); have n1 := B1.size; clear hb1))
    go_ret2
    exact ⟨_, rfl, PairsIn.nil _ _ _ _, B1⟩

theorem put_all_length (f : Int × Int → Int × Int) (xs : List (Int × Int)) : (putAll [] (xs.map f)).length ≤ xs.length := by
  have := put_length2 f xs xs.length
  rw [List.take_length] at this
  exact this

theorem walk_TurnChords (p : Int) (v : Value) (xs : List (Int × Int)) (k : Int) (w : World) (_ : (Lit.int .i64 p).wf = true) (hA : ArgP w v xs) (_ : (Lit.int .i64 k).wf = true) :
    Calls Try.prog 8 #[.int .i64 p, v, .int .i64 k] w fun e w' => e = .returned (.bool true) ∧ Below w.heap.size w w' := by
  by_cases hn : xs.length ≤ 1048576
  · by_cases hg : goodC p xs ∧ 0 ≤ k ∧ k < p
    · exact core_TurnChords p v xs k _ _ w hA hn (by have := hg.1.2.1; have := put_all_length (retC (fun a => (a + k) % p)) xs; omega) (fun W u B T h hT => sTurnChords_yes p k u xs B T W h hT hg.1 hg.2) (fun W u B T h hT => iTurnChords_yes p k u xs B T W h hT hg.1 hg.2)
    · exact core_TurnChords p v xs k [] false w hA hn (by simp) (fun W u B T h hT => sTurnChords_no p k u xs B T W h hT hg) (fun W u B T h hT => iTurnChords_no p k u xs B T W h hT hg)
  · exact long_TurnChords p v xs k w hA hn

end Go.Proofs.Ytincoaebdmikbab
