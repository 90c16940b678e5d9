/- The string of a point, and how a law holds lists of integers against each other. -/
import Derived.Test.YtlkehdjfmmghjabV2
import Derived.Test.YtlkehdjfmmghjabB3
namespace Go.Proofs.Ytlkehdjfmmghjab
open Go.RowKit

set_option maxHeartbeats 400000 in
theorem markIntS_in (v : Value) (xs : List Int) (m : Int) (B T : Nat) (e : TypeId) (w : World) (h : IntsIn e w B T v xs) (hm1 : 0 ≤ m) (hm2 : m ≤ 1000000000) (hn : xs.length ≤ 1000000000) :
    Calls Try.prog 26 #[v, .int .i64 m] w fun e' w' => e' = .returned (.int .i64 (m + xs.length)) ∧ IntsIn e w' B T v (marks m xs.length) ∧ Only B T w w' :=
  (markIntS_any v xs m B e w h.1 hm1 hm2 hn).mono fun _ _ ⟨he, hI, hg⟩ => ⟨he, ⟨hI, h.2⟩, Only.of_grown hg h.own⟩

theorem giveInts {w w' : World} {v : Value} {xs : List Int} (b : Bool) {B : Nat} (hI : Ints w' B 3 v xs) (hB : w.heap.size ≤ B) (hb : Below w.heap.size w w') : Gives (IntsIn 3) w xs b (.returned (.tuple #[v, .bool b])) w' :=
  ⟨v, rfl, ⟨hI.mono hB, fun k hk => (hI.own k hk).2⟩, hb⟩

theorem giveNoInts {w w' : World} (hb : Below w.heap.size w w') : Gives (IntsIn 3) w [] false (.returned (.tuple #[.slice none 0 0, .bool false])) w' :=
  ⟨_, rfl, IntsIn.nil _ _ _ _, hb⟩

set_option maxHeartbeats 400000 in
theorem iStringOf_yes (p s k : Nat) (w : World) (h : 3 ≤ p ∧ p ≤ 60 ∧ 1 ≤ s ∧ s < p) (hk : k < p) :
    Calls Try.prog 30 #[.agg #[.int .i64 p, .int .i64 s], .int .i64 k] w (Gives (IntsIn 3) w (strL p s k (p / Nat.gcd p s)) true) := by
  have g : 3 ≤ (p : Int) ∧ (p : Int) ≤ 60 ∧ 1 ≤ (s : Int) ∧ (s : Int) < p := by omega
  go_enter Try.func30, Try.ntmps30
  go_wp2_with (first | (go_at_call 28; (with_reducible refine (isStar_yes _ _ _ g).mono ?_); rintro e w1 ⟨rfl, hb⟩; obtain ⟨hc, hf⟩ := bcell hb; (have hz : w.heap.size < w1.heap.size := by (have := hb.size; (try simp at this); omega)); (have hB : Below w.heap.size w w1 := by (refine Below.trans ?_ (hb.mono (by first | (simp; done) | omega | (simp; omega))); go_grown))) | (go_at_call 86; (with_reducible refine (isPoint_yes _ _ _ (by omega)).mono ?_); rintro e w1 ⟨rfl, rfl⟩) | (go_at_call 87; (with_reducible refine (stringFrom_any _ _ _ _ h hk).mono ?_); rintro e w2 ⟨v, rfl, hI, hb2⟩))
  go_ret2
  exact giveInts true hI (by omega) (hB.trans (hb2.mono (by omega)))

set_option maxHeartbeats 400000 in
theorem iStringOf_no (p s k : Int) (w : World) (h : ¬ ((3 ≤ p ∧ p ≤ 60 ∧ 1 ≤ s ∧ s < p) ∧ (0 ≤ k ∧ k < p))) :
    Calls Try.prog 30 #[.agg #[.int .i64 p, .int .i64 s], .int .i64 k] w (Gives (IntsIn 3) w [] false) := by
  by_cases h1 : 3 ≤ p ∧ p ≤ 60 ∧ 1 ≤ s ∧ s < p
  · have h2 : ¬ (0 ≤ k ∧ k < p) := by omega
    clear h
    go_enter Try.func30, Try.ntmps30
    go_wp2_with (first | (go_at_call 28; (with_reducible refine (isStar_yes _ _ _ h1).mono ?_); rintro e w1 ⟨rfl, hb⟩; obtain ⟨hc, hf⟩ := bcell hb; (have hz : w.heap.size < w1.heap.size := by (have := hb.size; (try simp at this); omega)); (have hB : Below w.heap.size w w1 := by (refine Below.trans ?_ (hb.mono (by first | (simp; done) | omega | (simp; omega))); go_grown))) | (go_at_call 86; (with_reducible refine (isPoint_no _ _ _ h2).mono ?_); rintro e w1 ⟨rfl, rfl⟩))
    go_ret2
    exact giveNoInts hB
  · clear h
    go_enter Try.func30, Try.ntmps30
    go_wp2_with (first | (go_at_call 28; (with_reducible refine (isStar_no _ _ _ h1).mono ?_); rintro e w1 ⟨rfl, hb⟩; obtain ⟨hc, hf⟩ := bcell hb; (have hz : w.heap.size < w1.heap.size := by (have := hb.size; (try simp at this); omega)); (have hB : Below w.heap.size w w1 := by (refine Below.trans ?_ (hb.mono (by first | (simp; done) | omega | (simp; omega))); go_grown))))
    go_ret2
    exact giveNoInts hB

theorem eqIntS_in (v1 v2 : Value) (xs : List Int) (B1 T1 B2 T2 : Nat) (e : TypeId) (w : World) (h1 : IntsIn e w B1 T1 v1 xs) (h2 : IntsIn e w B2 T2 v2 xs) :
    Calls Try.prog 23 #[v1, v2] w fun e w' => e = .returned (.bool true) ∧ Below w.heap.size w w' :=
  (eqIntS_same v1 v2 xs B1 B2 e w h1.1 h2.1).mono fun _ _ ⟨he, q, hq⟩ => ⟨he, by rw [hq]; exact bdn (Below.refl _ _) q⟩

theorem heldIntS_in (v : Value) (m : Int) (n : Nat) (B T : Nat) (e : TypeId) (w : World) (h : IntsIn e w B T v (marks m n)) (hm1 : 0 ≤ m) (hm2 : m ≤ 1000000000) (hn : n ≤ 1000000000) :
    Calls Try.prog 27 #[v, .int .i64 m] w fun e w' => e = .returned (.int .i64 (m + n)) ∧ Below w.heap.size w w' :=
  (heldIntS_marks v m n B e w h.1 hm1 hm2 hn).mono fun _ _ ⟨he, hq⟩ => ⟨he, by rw [← hq]; exact Below.refl _ _⟩

end Go.Proofs.Ytlkehdjfmmghjab
