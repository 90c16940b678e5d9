/- The string of a point, and how a law holds lists of integers against each other. -/
import Derived.Test.YtjpillccpnjdiaaV2
import Derived.Test.YtjpillccpnjdiaaB3
namespace Go.Proofs.Ytjpillccpnjdiaa
open Go.RowKit

set_option maxHeartbeats 400000 in
theorem markIntS_in (v : Value) (xs : List Int) (m : Int) (B T : Nat) (e : TypeId) (w : World) (h : IntsIn e w B T v xs) (hm1 : 0 ≤ m) (hm2 : m ≤ 1000000000) (hn : xs.length ≤ 1000000000) :
    Calls Try.prog 31 #[v, .int .i64 m] w fun e' w' => e' = .returned (.int .i64 (m + xs.length)) ∧ IntsIn e w' B T v (marks m xs.length) ∧ Only B T w w' :=
  (markIntS_any v xs m B e w h.1 hm1 hm2 hn).mono fun _ _ ⟨he, hI, hg⟩ => ⟨he, ⟨hI, h.2⟩, Only.of_grown hg h.own⟩

theorem giveInts {w w' : World} {v : Value} {xs : List Int} (b : Bool) {B : Nat} (hI : Ints w' B 3 v xs) (hB : w.heap.size ≤ B) (hb : Below w.heap.size w w') : Gives (IntsIn 3) w xs b (.returned (.tuple #[v, .bool b])) w' :=
  ⟨v, rfl, ⟨hI.mono hB, fun k hk => (hI.own k hk).2⟩, hb⟩

theorem giveNoInts {w w' : World} (hb : Below w.heap.size w w') : Gives (IntsIn 3) w [] false (.returned (.tuple #[.slice none 0 0, .bool false])) w' :=
  ⟨_, rfl, IntsIn.nil _ _ _ _, hb⟩

set_option maxHeartbeats 400000 in
theorem iStringOf_yes (p s k : Nat) (w : World) (h : 3 ≤ p ∧ p ≤ 60 ∧ 1 ≤ s ∧ s < p) (hk : k < p) :
    Calls Try.prog 29 #[.agg #[.int .i64 p, .int .i64 s], .int .i64 k] w (Gives (IntsIn 3) w (strL p s k (p / Nat.gcd p s)) true) := by
  have g : 3 ≤ (p : Int) ∧ (p : Int) ≤ 60 ∧ 1 ≤ (s : Int) ∧ (s : Int) < p := by omega
  go_enter Try.func29, Try.ntmps29
  go_wp2_with (first | (go_at_call 17; (with_reducible refine (isStar_yes _ _ _ g).mono ?_); rintro e w1 ⟨rfl, hb⟩; obtain ⟨hc, hf⟩ := bcell hb; (have hz : w.heap.size < w1.heap.size := by (have := hb.size; (try simp at this); omega)); (have hB : Below w.heap.size w w1 := by (refine Below.trans ?_ (hb.mono (by first | (simp; done) | omega | (simp; omega))); go_grown))) | (go_at_call 50; (with_reducible refine (isPoint_yes _ _ _ (by omega)).mono ?_); rintro e w1 ⟨rfl, rfl⟩) | (go_at_call 55; (with_reducible refine (stringFrom_any _ _ _ _ h hk).mono ?_); rintro e w2 ⟨v, rfl, hI, hb2⟩))
  go_ret2
  exact giveInts true hI (by omega) (hB.trans (hb2.mono (by omega)))

set_option maxHeartbeats 400000 in
theorem iStringOf_no (p s k : Int) (w : World) (h : ¬ ((3 ≤ p ∧ p ≤ 60 ∧ 1 ≤ s ∧ s < p) ∧ (0 ≤ k ∧ k < p))) :
    Calls Try.prog 29 #[.agg #[.int .i64 p, .int .i64 s], .int .i64 k] w (Gives (IntsIn 3) w [] false) := by
  by_cases h1 : 3 ≤ p ∧ p ≤ 60 ∧ 1 ≤ s ∧ s < p
  · have h2 : ¬ (0 ≤ k ∧ k < p) := by omega
    clear h
    go_enter Try.func29, Try.ntmps29
    go_wp2_with (first | (go_at_call 17; (with_reducible refine (isStar_yes _ _ _ h1).mono ?_); rintro e w1 ⟨rfl, hb⟩; obtain ⟨hc, hf⟩ := bcell hb; (have hz : w.heap.size < w1.heap.size := by (have := hb.size; (try simp at this); omega)); (have hB : Below w.heap.size w w1 := by (refine Below.trans ?_ (hb.mono (by first | (simp; done) | omega | (simp; omega))); go_grown))) | (go_at_call 50; (with_reducible refine (isPoint_no _ _ _ h2).mono ?_); rintro e w1 ⟨rfl, rfl⟩))
    go_ret2
    exact giveNoInts hB
  · clear h
    go_enter Try.func29, Try.ntmps29
    go_wp2_with (first | (go_at_call 17; (with_reducible refine (isStar_no _ _ _ h1).mono ?_); rintro e w1 ⟨rfl, hb⟩; obtain ⟨hc, hf⟩ := bcell hb; (have hz : w.heap.size < w1.heap.size := by (have := hb.size; (try simp at this); omega)); (have hB : Below w.heap.size w w1 := by (refine Below.trans ?_ (hb.mono (by first | (simp; done) | omega | (simp; omega))); go_grown))))
    go_ret2
    exact giveNoInts hB

set_option maxHeartbeats 400000 in
theorem sStringOf_yes (p s k : Nat) (w : World) (h : 3 ≤ p ∧ p ≤ 60 ∧ 1 ≤ s ∧ s < p) (hk : k < p) :
    Calls Try.prog 28 #[.agg #[.int .i64 p, .int .i64 s], .int .i64 k] w (Gives (IntsIn 3) w (strL p s k (p / Nat.gcd p s)) true) := by
  have g : 3 ≤ (p : Int) ∧ (p : Int) ≤ 60 ∧ 1 ≤ (s : Int) ∧ (s : Int) < p := by omega
  go_enter Try.func28, Try.ntmps28
  go_wp2_with (first | (go_at_call 48; (with_reducible refine (srAsked_yes _ _ _ _ g (by omega)).mono ?_); rintro e w1 ⟨rfl, hb⟩; obtain ⟨hc, hf⟩ := bcell hb; (have hz : w.heap.size < w1.heap.size := by (have := hb.size; (try simp at this); omega)); (have hB : Below w.heap.size w w1 := by (refine Below.trans ?_ (hb.mono (by first | (simp; done) | omega | (simp; omega))); go_grown))) | (go_at_call 54; (with_reducible refine (srString_any _ _ _ _ h hk).mono ?_); rintro e w2 ⟨v, rfl, hI, hb2⟩))
  go_ret2
  exact giveInts true hI (by omega) (hB.trans (hb2.mono (by omega)))

set_option maxHeartbeats 400000 in
theorem sStringOf_no (p s k : Int) (w : World) (h : ¬ ((3 ≤ p ∧ p ≤ 60 ∧ 1 ≤ s ∧ s < p) ∧ (0 ≤ k ∧ k < p))) :
    Calls Try.prog 28 #[.agg #[.int .i64 p, .int .i64 s], .int .i64 k] w (Gives (IntsIn 3) w [] false) := by
  go_enter Try.func28, Try.ntmps28
  go_wp2_with (first | (go_at_call 48; (with_reducible refine (srAsked_no _ _ _ _ h).mono ?_); rintro e w1 ⟨rfl, hb⟩; obtain ⟨hc, hf⟩ := bcell hb; (have hz : w.heap.size < w1.heap.size := by (have := hb.size; (try simp at this); omega)); (have hB : Below w.heap.size w w1 := by (refine Below.trans ?_ (hb.mono (by first | (simp; done) | omega | (simp; omega))); go_grown))))
  go_ret2
  exact giveNoInts hB

theorem eqIntS_in (v1 v2 : Value) (xs : List Int) (B1 T1 B2 T2 : Nat) (e : TypeId) (w : World) (h1 : IntsIn e w B1 T1 v1 xs) (h2 : IntsIn e w B2 T2 v2 xs) :
    Calls Try.prog 30 #[v1, v2] w fun e w' => e = .returned (.bool true) ∧ Below w.heap.size w w' :=
  (eqIntS_same v1 v2 xs B1 B2 e w h1.1 h2.1).mono fun _ _ ⟨he, q, hq⟩ => ⟨he, by rw [hq]; exact bdn (Below.refl _ _) q⟩

theorem heldIntS_in (v : Value) (m : Int) (n : Nat) (B T : Nat) (e : TypeId) (w : World) (h : IntsIn e w B T v (marks m n)) (hm1 : 0 ≤ m) (hm2 : m ≤ 1000000000) (hn : n ≤ 1000000000) :
    Calls Try.prog 32 #[v, .int .i64 m] w fun e w' => e = .returned (.int .i64 (m + n)) ∧ Below w.heap.size w w' :=
  (heldIntS_marks v m n B e w h.1 hm1 hm2 hn).mono fun _ _ ⟨he, hq⟩ => ⟨he, by rw [← hq]; exact Below.refl _ _⟩

set_option maxHeartbeats 400000 in
theorem core_StringOf (p s k : Int) (x : List Int) (b : Bool) (w : World) (hx : x.length ≤ 1000000)
    (hs : ∀ W, Calls Try.prog 28 #[.agg #[.int .i64 p, .int .i64 s], .int .i64 k] W (Gives (IntsIn 3) W x b)) (hi : ∀ W, Calls Try.prog 29 #[.agg #[.int .i64 p, .int .i64 s], .int .i64 k] W (Gives (IntsIn 3) W x b)) :
    Calls Try.prog 9 #[.agg #[.int .i64 p, .int .i64 s], .int .i64 k] w fun e w' => e = .returned (.bool true) ∧ Below w.heap.size w w' := by
  have HS := Lib.hid hs
  have HI := Lib.hid hi
  clear hs hi
  have p0_0' : (w.alloc (.cells #[.int .i64 p, .int .i64 s] 23)).cell? ⟨w.heap.size, 0, none⟩ = some (.int .i64 p) := by go_simp
  have p0_0 := Lib.hid p0_0'
  clear p0_0'
  have q0_0' : (w.alloc (.cells #[.int .i64 p, .int .i64 s] 23)).cell? ⟨w.heap.size, 1, none⟩ = some (.int .i64 s) := by go_simp
  have q0_0 := Lib.hid q0_0'
  clear q0_0'
  go_enter Try.func9, Try.ntmps9
  go_wp2_with fail
  refine (toStar_any _ _ _).mono ?_
  rintro e w1 ⟨rfl, hb1⟩
  have n1 : w.heap.size + 1 ≤ w1.heap.size := by have := hb1.size; simp at this; omega
  have B1 : Below w.heap.size w w1 := Below.trans (by go_grown) (hb1.mono (by first | (simp; done) | (simp; omega)))
  have p0_1 := cellB hb1 p0_0.out
  have q0_1 := cellB hb1 q0_0.out
  go_wp2_with fail
  refine (HS.out _).mono ?_
  rintro e w2 ⟨vw, rfl, kw_2, hb2⟩
  have n2 := hb2.size
  have B2 := B1.trans (hb2.mono (by omega))
  have p0_2 := cellB hb2 p0_1
  have q0_2 := cellB hb2 q0_1
  clear p0_1 q0_1
  go_wp2_with fail
  refine (toStar_any _ _ _).mono ?_
  rintro e w3 ⟨rfl, hb3⟩
  have n3 := hb3.size
  have B3 := B2.trans (hb3.mono (by omega))
  have p0_3 := cellB hb3 p0_2
  have q0_3 := cellB hb3 q0_2
  clear p0_2 q0_2
  have kw_3 := kw_2.keep (belowSame hb3 (by omega))
  go_wp2_with fail
  refine (HI.out _).mono ?_
  rintro e w4 ⟨vg, rfl, kg_4, hb4⟩
  have n4 := hb4.size
  have B4 := B3.trans (hb4.mono (by omega))
  have p0_4 := cellB hb4 p0_3
  have q0_4 := cellB hb4 q0_3
  clear p0_3 q0_3
  have kw_4 := kw_3.keep (belowSame hb4 (by omega))
  go_wp2_with fail
  refine (eqIntS_in _ _ x _ _ _ _ _ _ kg_4 kw_4).mono ?_
  rintro e w5 ⟨rfl, hb5⟩
  have n5 := hb5.size
  have B5 := B4.trans (hb5.mono (by omega))
  have p0_5 := cellB hb5 p0_4
  have q0_5 := cellB hb5 q0_4
  clear p0_4 q0_4
  have kw_5 := kw_4.keep (belowSame hb5 (by omega))
  have kg_5 := kg_4.keep (belowSame hb5 (by omega))
  go_wp2_with fail
  refine (markIntS_in _ x 1 _ _ _ _ kg_5 (by omega) (by omega) (by omega)).mono ?_
  rintro e w6 ⟨rfl, mg_6, o6⟩
  have n6 := o6.size
  have B6 := B5.trans (o6.below (C := w.heap.size) (by omega) (by omega))
  have p0_6 := o6.cell (.inl (by omega)) p0_5
  have q0_6 := o6.cell (.inl (by omega)) q0_5
  clear p0_5 q0_5
  have kw_6 := kw_5.keep (o6.same_in (by omega) (.inl (by omega)))
  have kg_6 := mg_6
  go_wp2_with fail
  refine (heldIntS_in _ 1 x.length _ _ _ _ kg_6 (by omega) (by omega) (by omega)).mono ?_
  rintro e w7 ⟨rfl, hb7⟩
  have n7 := hb7.size
  have B7 := B6.trans (hb7.mono (by omega))
  have p0_7 := cellB hb7 p0_6
  have q0_7 := cellB hb7 q0_6
  clear p0_6 q0_6
  have kw_7 := kw_6.keep (belowSame hb7 (by omega))
  have kg_7 := kg_6.keep (belowSame hb7 (by omega))
  go_wp2_with fail
  refine (toStar_any _ _ _).mono ?_
  rintro e w8 ⟨rfl, hb8⟩
  have n8 := hb8.size
  have B8 := B7.trans (hb8.mono (by omega))
  have p0_8 := cellB hb8 p0_7
  have q0_8 := cellB hb8 q0_7
  clear p0_7 q0_7
  have kw_8 := kw_7.keep (belowSame hb8 (by omega))
  have kg_8 := kg_7.keep (belowSame hb8 (by omega))
  go_wp2_with fail
  refine (HI.out _).mono ?_
  rintro e w9 ⟨vh, rfl, kh_9, hb9⟩
  have n9 := hb9.size
  have B9 := B8.trans (hb9.mono (by omega))
  have p0_9 := cellB hb9 p0_8
  have q0_9 := cellB hb9 q0_8
  clear p0_8 q0_8
  have kw_9 := kw_8.keep (belowSame hb9 (by omega))
  have kg_9 := kg_8.keep (belowSame hb9 (by omega))
  go_wp2_with fail
  refine (eqIntS_in _ _ x _ _ _ _ _ _ kh_9 kw_9).mono ?_
  rintro e w10 ⟨rfl, hb10⟩
  have n10 := hb10.size
  have B10 := B9.trans (hb10.mono (by omega))
  have p0_10 := cellB hb10 p0_9
  have q0_10 := cellB hb10 q0_9
  clear p0_9 q0_9
  have kw_10 := kw_9.keep (belowSame hb10 (by omega))
  have kg_10 := kg_9.keep (belowSame hb10 (by omega))
  have kh_10 := kh_9.keep (belowSame hb10 (by omega))
  go_wp2_with fail
  refine (heldIntS_in _ 1 x.length _ _ _ _ kg_10 (by omega) (by omega) (by omega)).mono ?_
  rintro e w11 ⟨rfl, hb11⟩
  have n11 := hb11.size
  have B11 := B10.trans (hb11.mono (by omega))
  have p0_11 := cellB hb11 p0_10
  have q0_11 := cellB hb11 q0_10
  clear p0_10 q0_10
  have kw_11 := kw_10.keep (belowSame hb11 (by omega))
  have kg_11 := kg_10.keep (belowSame hb11 (by omega))
  have kh_11 := kh_10.keep (belowSame hb11 (by omega))
  go_wp2_with fail
  go_ret
  exact ⟨rfl, B11⟩

end Go.Proofs.Ytjpillccpnjdiaa
