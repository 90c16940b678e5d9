/- Times tables: rows and what is told of them: the model; the row of the program. -/
import Derived.Test.YtincoaebdmikbabT5
namespace Go.Proofs.Ytincoaebdmikbab
open Go.RowKit
set_option linter.unusedVariables false

/-- What a call made since w. -/
theorem giveT {w w' : World} {v : Value} {xs : List Int} (b : Bool) {B : Nat} (hI : Ints w' B 3 v xs) (hB : w.heap.size ≤ B) (hb : Below w.heap.size w w') : Gives (IntsIn 3) w xs b (.returned (.tuple #[v, .bool b])) w' :=
  ⟨v, rfl, ⟨hI.mono hB, fun k hk => (hI.own k hk).2⟩, hb⟩

theorem giveNoT {w w' : World} (hb : Below w.heap.size w w') : Gives (IntsIn 3) w [] false (.returned (.tuple #[.slice none 0 0, .bool false])) w' :=
  ⟨_, rfl, IntsIn.nil _ _ _ _, hb⟩

set_option maxHeartbeats 1000000 in
theorem taRow_any (p f : Nat) (w : World) (h : 3 ≤ p ∧ p ≤ 60) (hf : f < p) :
    Calls Try.prog 57 #[.int .i64 p, .int .i64 f] w (GivesT w (rowT p f p)) := by
  obtain ⟨h1, h2⟩ := h
  go_enter Try.func57, Try.ntmps57
  go_wp2
  go_loopw [5, 6] (fun u i wr => ∃ k : Nat, k ≤ p ∧ i = .int .i64 k ∧ Ints wr w.heap.size 3 u (rowT p f k) ∧ Below w.heap.size w wr) (fun _ i _ => p - (intOf i).toNat)
  case atStart => exact ⟨0, by omega, rfl, World.ownsRow_nil _ _ _ _, Below.refl _ _⟩
  case round =>
    obtain ⟨k, hk, rfl, hI, hB⟩ := hrel
    have HI := Lib.hid hI
    have hz := hB.size
    clear hI
    by_cases hlt : k < p
    · obtain ⟨m1, m2⟩ := mul_bd60 (a := k) (b := f) (by omega) (by omega)
      have HS := Lib.hid (show rowT p f k ++ [(k : Int) * (f : Int) % (p : Int)] = rowT p f (k + 1) by rw [← rowT_succ]; simp)
      go_wp2_with (at_builtin; refine wpList_append_int rfl _ _ 40 rfl (w.heap.size) 3 Try.underlying40 info_int _ _ rfl HI.out ((k : Int) * (f : Int) % (p : Int)) rfl (by rw [rowT_length]; omega) (by omega) ?_; intro v' w' hI' hg';  have hB' := HI.out.below hB hz hg'; rw [HS.out] at hI'; have HI' := Lib.hid hI'; clear hI' hB)
      go_roundw
      case rel => exact ⟨k + 1, by omega, by go_num, HI'.out, hB'⟩
      case measure => simp [intOf]; omega
    · obtain rfl : k = p := by omega
      go_wp2
      go_ret
      exact ⟨_, rfl, HI.out, hB⟩

/-- A whole array into the block that was made last. -/
theorem wpList_store_new {P : Program} {w : World} {ops : Array Oper} {rest : List Oper} {o : Oper} {a : Act} {Q : Exit → Act → World → Prop} (hgd : o.guard = none) (ty : TypeId) (x y : Operand) (ho : o.op = .store ty x y)
    (cells : Array Value) (hx : a.eval x = .pointer (some ⟨w.heap.size, 0, none⟩)) (hy : a.eval y = .agg cells) (old : Array Value) (hi : (P.info? ty).map (·.size) = some cells.size)
    (hold : old.size = cells.size) (h1 : cells.all (·.oneCell') = true)
    (h : wpList P ops Q rest (a.put o.dst undef) (w.alloc (.cells cells ty))) : wpList P ops Q (o :: rest) a (w.alloc (.cells old ty)) :=
  wpList_store_row hgd ty x y ho w.heap.size cells hx hy ty old (heap_alloc_new w _) hi hold h1 (by rw [World.setRow_alloc_new]; exact h)

theorem rowT_at (p f : Nat) (q : Nat) (h : q < p) : (rowT p f p).getD q 0 = ((q * f % p : Nat) : Int) := rowT_get p f p q h

end Go.Proofs.Ytincoaebdmikbab
