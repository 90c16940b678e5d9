/- Puzzles that texts tell: one clue, by the program; what stays but for one box. -/
import Derived.Test.YtbgcbokddldmkaaDoorLB
import Derived.Test.YtbgcbokddldmkaaDoorLG
import Derived.Test.YtbgcbokddldmkaaDoorD3
import Derived.Test.YtbgcbokddldmkaaDoorX2
namespace Go.Proofs.YtbgcbokddldmkaaDoor
open Go.RowKit
set_option linter.unusedVariables false

/-! blocks that stay but for one -/
theorem onlyCell {b : Nat} {w w' : World} (h : Only b (b + 1) w w') {g o : Nat} {x : Value} (hc : w.cell? ⟨g, o, none⟩ = some x) (hne : g ≠ b) : w'.cell? ⟨g, o, none⟩ = some x := by
  have hlt := World.block_lt_of_cell? w _ hc
  have := h.block g hlt (by omega)
  unfold World.cell? at hc ⊢
  simp only at hc ⊢
  rw [this]
  exact hc

theorem onlyFrozen {b : Nat} {w w' : World} (h : Only b (b + 1) w w') {g o : Nat} (hlt : g < w.heap.size) (hf : w.frozen? ⟨g, o, none⟩ = false) (hne : g ≠ b) : w'.frozen? ⟨g, o, none⟩ = false := by
  have := h.block g hlt (by omega)
  unfold World.frozen? at hf ⊢
  simp only at hf ⊢
  rw [this]
  exact hf

theorem onlyRefl (b : Nat) (w : World) : Only b (b + 1) w w := ⟨rfl, rfl, rfl, Nat.le_refl _, fun _ _ _ => rfl⟩

theorem onlyLater {b : Nat} {w w' w'' : World} (h : Only b (b + 1) w w') (hb : Below w.heap.size w' w'') : Only b (b + 1) w w'' :=
  ⟨hb.os.trans h.os, hb.tape.trans h.tape, hb.output.trans h.output, Nat.le_trans h.size hb.size, fun k hk hn => (hb.block k hk).trans (h.block k hk hn)⟩

theorem onlySet {b : Nat} {w w' : World} (h : Only b (b + 1) w w') (o : Nat) (x : Value) : Only b (b + 1) w (w'.setCell ⟨b, o, none⟩ x) :=
  ⟨h.os, h.tape, h.output, by have := h.size; simpa using this, fun k hk hn => by rw [setCell_other w' ⟨b, o, none⟩ x (by show b ≠ k; omega)]; exact h.block k hk hn⟩

theorem tripsSet {e : TypeId} {w : World} {B : Nat} {v : Value} {xs : List Tri} (h : Trips w B e v xs) (p : Addr) (u : Value) (hp : p.block < B) : Trips (w.setCell p u) B e v xs :=
  ownsRow_setCell_below h hp u

/-! one clue -/
/-- The numbers of a clue that a text tells, and whether it tells one. -/
def numC (l : List UInt8) : Tri := ((((plainT (Lib.cut l [46]).1).getD 0 : Nat) : Int), ((((readP 46 (Lib.cut l [46]).2.1).getD (0, 0)).1 : Nat) : Int), ((((readP 46 (Lib.cut l [46]).2.1).getD (0, 0)).2 : Nat) : Int))
def okC (l : List UInt8) : Bool := (plainT (Lib.cut l [46]).1).isSome && (readP 46 (Lib.cut l [46]).2.1).isSome

theorem readP_nil (c : UInt8) : readP c [] = none := by
  unfold readP
  rw [if_neg]
  unfold Lib.cut
  rcases Lib.index_spec [] [c] with ⟨h1, _⟩ | ⟨i, h1, h2, h3, _⟩
  · rw [if_neg (by omega)]; simp
  · exfalso
    unfold Lib.occAt at h3
    simp at h3

theorem okC_some {l : List UInt8} (h : okC l = true) : ∃ x y z, ∃ a b c : Nat, l = x ++ 46 :: (y ++ 46 :: z) ∧ plainT x = some a ∧ plainT y = some b ∧ plainT z = some c ∧ numC l = ((a : Int), (b : Int), (c : Int)) := by
  unfold okC at h
  rw [Bool.and_eq_true] at h
  obtain ⟨h1, h2⟩ := h
  obtain ⟨a, ha⟩ := Option.isSome_iff_exists.1 h1
  obtain ⟨⟨b, c⟩, hbc⟩ := Option.isSome_iff_exists.1 h2
  obtain ⟨y, z, hyz, hb, hc⟩ := readP_some hbc
  have hcut : (Lib.cut l [46]).2.2 = true := by
    cases hh : (Lib.cut l [46]).2.2 with
    | true => rfl
    | false =>
      exfalso
      have : (Lib.cut l [46]).2.1 = [] := by
        unfold Lib.cut at hh ⊢
        split
        · rename_i hi
          rw [if_pos hi] at hh
          cases hh
        · rfl
      rw [this, readP_nil] at hbc
      cases hbc
  refine ⟨_, y, z, a, b, c, ?_, ha, hb, hc, ?_⟩
  · rw [← hyz]
    exact cut_parts hcut
  · unfold numC
    rw [ha, hbc]
    rfl

theorem okC_at {x y z : List UInt8} {a b c : Nat} (hx : x.all (fun t => t != 46) = true) (hy : y.all (fun t => t != 46) = true) (ha : plainT x = some a) (hb : plainT y = some b) (hc : plainT z = some c) :
    okC (x ++ 46 :: (y ++ 46 :: z)) = true ∧ numC (x ++ 46 :: (y ++ 46 :: z)) = ((a : Int), (b : Int), (c : Int)) := by
  unfold okC numC
  rw [cut_at hx]
  simp only
  rw [ha, readP_at hy hb hc]
  exact ⟨rfl, rfl⟩

set_option maxHeartbeats 4000000 in
theorem numbersOfClue_of (t fi re : ByteArray) (o ok1 ok2 : Bool) (p q r : Int) (w : World)
    (hC : ∀ W, NumW W → Calls Tryd.prog 110 #[.string t, .string ⟨#[46]⟩] W fun e w' => e = .returned (.tuple #[.string fi, .string re, .bool o]) ∧ ∃ n, w' = W.drewN n) (hn : NumW w)
    (hl : ∀ W, NumW W → Calls Tryd.prog 111 #[.string fi] W fun e w' => e = .returned (.tuple #[.int .i64 p, .bool ok1]) ∧ Below W.heap.size W w')
    (hr : ∀ W, NumW W → Calls Tryd.prog 81 #[.string re, .string ⟨#[46]⟩] W fun e w' => e = .returned (.tuple #[.int .i64 q, .int .i64 r, .bool ok2]) ∧ Below W.heap.size W w') :
    Calls Tryd.prog 77 #[.string t] w fun e w' => e = .returned (.tuple #[.agg #[.int .i64 p, .int .i64 q, .int .i64 r], .bool (ok1 && ok2)]) ∧ Below w.heap.size w w' := by
  have HC := Lib.hid hC
  have HL := Lib.hid hl
  have HR := Lib.hid hr
  have HN := Lib.hid hn
  clear hC hn hl hr
  cases ok1 <;> cases ok2
  all_goals
    go_enter Tryd.func77, Tryd.ntmps77
    go_wp2_with (first | (go_at_call 110; (refine (HC.out _ (HN.out.later (by go_grown))).mono ?_); rintro e w1 ⟨rfl, nn, hw1⟩; (have hb1 : Below (w.alloc (.cells #[.int .i64 0, .int .i64 0, .int .i64 0] 44)).heap.size (w.alloc (.cells #[.int .i64 0, .int .i64 0, .int .i64 0] 44)) w1 := by (rw [hw1]; exact bdn (Below.refl _ _) _)); clear hw1; (have e0 : w1.cell? ⟨w.heap.size, 0, none⟩ = some (.int .i64 0) := cellB hb1 (by go_simp)); (have e1 : w1.cell? ⟨w.heap.size, 1, none⟩ = some (.int .i64 0) := cellB hb1 (by go_simp)); (have e2 : w1.cell? ⟨w.heap.size, 2, none⟩ = some (.int .i64 0) := cellB hb1 (by go_simp)); (have f0 : w1.frozen? ⟨w.heap.size, 0, none⟩ = false := frozenB hb1 (by simp) (by go_simp)); (have f1 : w1.frozen? ⟨w.heap.size, 1, none⟩ = false := frozenB hb1 (by simp) (by go_simp)); (have f2 : w1.frozen? ⟨w.heap.size, 2, none⟩ = false := frozenB hb1 (by simp) (by go_simp)); (have hz1 : w.heap.size < w1.heap.size := by (have := hb1.size; simp at this; omega)); (have hB1 : Below w.heap.size w w1 := Below.trans (by go_grown) (hb1.mono (by simp))); (have HN1 := Lib.hid (HN.out.later hB1)); clear hb1) | (go_at_call 111; (refine (HL.out _ HN1.out).mono ?_); rintro e w2 ⟨rfl, hb2⟩; (have e0_2 := cellB hb2 e0); (have f0_2 := frozenB hb2 (by omega) f0); (have e1_2 := cellB hb2 e1); (have f1_2 := frozenB hb2 (by omega) f1); (have e2_2 := cellB hb2 e2); (have f2_2 := frozenB hb2 (by omega) f2); (have hz2 := hb2.size); (have hB2 := hB1.trans (hb2.mono (by omega))); (have HN2 := Lib.hid (HN1.out.later hb2)); clear e0 f0 e1 f1 e2 f2) | (go_at_call 81; (refine (HR.out _ HN2.out).mono ?_); rintro e w3 ⟨rfl, hb3⟩; (have e0_3 := cellB hb3 e0_2); (have f0_3 := frozenB hb3 (by omega) f0_2); (have e1_3 := cellB hb3 e1_2); (have f1_3 := frozenB hb3 (by omega) f1_2); (have e2_3 := cellB hb3 e2_2); (have f2_3 := frozenB hb3 (by omega) f2_2); (have hz3 := hb3.size); (have hB3 := hB2.trans (hb3.mono (by omega))); (have HN3 := Lib.hid (HN2.out.later hb3)); clear e0_2 f0_2 e1_2 f1_2 e2_2 f2_2))
    refine bodyPost_ret (v := .tuple #[.agg #[.int .i64 p, .int .i64 q, .int .i64 r], .bool _]) (by simp [results, Tryd.results77, go_sem, *]) rfl ⟨rfl, ?_⟩
    exact ((hB3.setC _ _ (Nat.le_refl _)).setC _ _ (Nat.le_refl _)).setC _ _ (Nat.le_refl _)

theorem numbersOfClue_any (t : ByteArray) (w : World) (ht : t.size ≤ 1048576) (hn : NumW w) :
    Calls Tryd.prog 77 #[.string t] w fun e w' => e = .returned (.tuple #[.agg #[.int .i64 (numC t.data.toList).1, .int .i64 (numC t.data.toList).2.1, .int .i64 (numC t.data.toList).2.2], .bool (okC t.data.toList)]) ∧ Below w.heap.size w w' := by
  have l0 : t.data.toList.length ≤ 1048576 := by rw [Array.length_toList]; exact ht
  obtain ⟨l3, l4⟩ := cut_le t.data.toList 46
  have hC : ∀ W, NumW W → Calls Tryd.prog 110 #[.string t, .string ⟨#[46]⟩] W fun e w' => e = .returned (.tuple #[.string ⟨(Lib.cut t.data.toList [46]).1.toArray⟩, .string ⟨(Lib.cut t.data.toList [46]).2.1.toArray⟩, .bool (Lib.cut t.data.toList [46]).2.2]) ∧ ∃ n, w' = W.drewN n := fun W hW => by
    obtain ⟨m, hm⟩ := hW.most
    exact Any.strings_Cut Tryd.cutL t ⟨#[46]⟩ m W (by omega) hm
  have hl := fun W (h : NumW W) => plain_any ⟨(Lib.cut t.data.toList [46]).1.toArray⟩ W (by rw [list_size]; omega) h
  have hr := fun W (h : NumW W) => numberPair_any ⟨(Lib.cut t.data.toList [46]).2.1.toArray⟩ 46 W (by rw [list_size]; omega) h
  dsimp only at hl hr
  exact numbersOfClue_of t _ _ _ _ _ _ _ _ w hC hn hl hr

end Go.Proofs.YtbgcbokddldmkaaDoor
