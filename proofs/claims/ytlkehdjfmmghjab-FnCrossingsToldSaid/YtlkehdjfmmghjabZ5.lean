/- A set of chords is taken out in order. -/
import Derived.Test.YtlkehdjfmmghjabZ4
import Derived.Test.YtlkehdjfmmghjabZ1
namespace Go.Proofs.Ytlkehdjfmmghjab
open Go.RowKit Go.Maps
set_option linter.unusedVariables false

theorem ranges_apart {w : World} {b r n B : Nat} {e : TypeId} {D : DataW Unit} {left : Lit → Bool} {cnt : Nat} {v : Value} {xs : List (Int × Int)} (h : w.ranges Try.prog 61 elemB b r n D left cnt) (hI : Pairs w B e v xs) : v.ownBlock ≠ some r := by
  obtain ⟨es, clock, since, seen, c0, _, _, _, _, hr, _⟩ := h
  rcases hI.2 with ⟨rfl, _⟩ | ⟨g, cap, cur, rfl, _, hg, _⟩
  · simp [Value.ownBlock]
  · simp only [Value.ownBlock, ne_eq, Option.some.injEq]
    rintro rfl
    rw [hr] at hg
    cases hg

theorem Pairs.grown {w w' : World} {B : Nat} {e : TypeId} {v : Value} {xs : List (Int × Int)} {row : Option Nat} (h : Pairs w B e v xs) (hg : w.grownBy w' row) (hne : v.ownBlock = none ∨ v.ownBlock ≠ row) : Pairs w' B e v xs :=
  World.ownsRow.kept h hg hne

theorem box_grown {w1 w2 : World} {B : Nat} {e : TypeId} {v : Value} {xs : List (Int × Int)} (hI : Pairs w1 B e v xs) (o : Obj) (hg : (w1.alloc o).grownBy w2 v.ownBlock) : w2.heap[w1.heap.size]? = some o :=
  (hg.block _ (by simp) (fun e => by have := (hI.own _ e.symm).2; omega)).trans (heap_alloc_new w1 o)

/-- The step of a loop over a set of chords. -/
theorem next_chords (w : World) {ops : Array Oper} {rest : List Oper} {o : Oper} {a : Act} {Q : Exit → Act → World → Prop} (hg : o.guard = none) (it : Operand) (hop : o.op = Op.next it false) (b r n : Nat) (D : DataW Unit) (left : Lit → Bool) (cnt : Nat)
    (hit : a.eval it = .pointer (some ⟨r, 0, none⟩)) (h : w.ranges Try.prog 61 elemB b r n D left cnt)
    (hDone : (∀ kl, left kl = false) → wpList Try.prog ops Q rest (a.put o.dst (.tuple #[.bool false])) w)
    (hMore : ∀ (c1 c2 : Int) (u : Value) (kl : Lit) (w' : World) (cnt' : Nat), IsKey (c1, c2) kl → left kl = true → w'.ranges Try.prog 61 elemB b r n D (fun z => left z && !z.sameKey kl) cnt' → cnt' < cnt →
      w.grownBy w' (some r) → w'.heap.size = w.heap.size → (Instr.entry (.pointer (some ⟨r, 0, none⟩))).run Try.prog w' = .ok (.tuple #[.agg #[.int .i64 c1, .int .i64 c2], u]) w' → wpList Try.prog ops Q rest (a.put o.dst (.tuple #[.bool true, .agg #[.int .i64 c1, .int .i64 c2], u])) w') :
    wpList Try.prog ops Q (o :: rest) a w :=
  wpList_next_ranges w hg it hop 61 keyC elemB aggC (fun v : Value => v) (fun key kl hkey => isKey_inv hkey) (fun v y _ => ⟨v, rfl⟩) b r n D left cnt hit h (fun _ hl => hDone hl)
    (fun c u kl y w' cnt' hkey hlk _ _ hrg hlt hgr hsz hen => hMore c.1 c.2 u kl w' cnt' hkey hlk hrg hlt hgr hsz hen)

set_option maxHeartbeats 1000000 in
set_option maxRecDepth 100000 in
theorem emptyInOrder_any (b n : Nat) (xs : List (Int × Int)) (w : World) (h : SetC w b n xs) (hn : n ≤ 1000) :
    Calls Try.prog 105 #[.map (some b)] w fun e w' => ∃ v ys, e = .returned v ∧ PairsIn 61 w' w.heap.size w'.heap.size v ys ∧ SortedC ys ∧ (∀ x, x ∈ ys ↔ x ∈ xs) ∧ Below b w w' := by
  have hbl := h.lt
  obtain ⟨D, hown, hk1, hk2⟩ := h
  have K1 := Lib.hid hk1
  have K2 := Lib.hid hk2
  clear hk1 hk2
  have hsz := hown.size_le
  obtain ⟨m, hm⟩ : ∃ m, m = Maps.size D := ⟨_, rfl⟩
  have hmn : m ≤ n := by omega
  have HM := Lib.hid hm
  clear hm
  have hmk := make_pairs0 (P := Try.prog) Try.underlying31 info_chord m (by omega)
  go_enter Try.func105, Try.ntmps105
  go_wp2_with (first
    | (at_len; refine wpList_len_own _ rfl _ 124 rfl 61 4 Try.underlying124 _ b n D rfl hown ?_; rw [← HM.out])
    | (at_range; refine wpList_range_own _ rfl _ 124 rfl 61 4 keyC Try.underlying124 _ b n _ rfl (hown.alloc _) ?_; intro w0 hrg0 hg0 hs0))
  rw [World.size_alloc] at hrg0
  have hp0 := (Pairs.made0 w w.heap.size 61 m (Nat.le_refl _) (by omega)).grown hg0 (Or.inr (by simp [Value.ownBlock]))
  have hB0 : Below b w w0 := (((Below.refl b w).alloc (by omega) _)).grown hg0 (by simp; omega) (fun k hk => by simp at hk)
  have hs0' : w0.heap.size = w.heap.size + 2 := by rw [hs0, World.size_alloc]
  have HRG0 := Lib.hid hrg0
  have HP0 := Lib.hid hp0
  clear hrg0 hp0 hg0 hs0 hown
  go_frame
  rw [World.size_alloc]
  go_loopw [3] (fun l wr => ∃ left cnt D' ys, wr.ranges Try.prog 61 elemB b (w.heap.size + 1) n D' left cnt ∧ Pairs wr w.heap.size 61 l ys ∧ ToldC D left ys ∧ ys.length + cnt ≤ n ∧ Below b w wr ∧ w.heap.size + 2 ≤ wr.heap.size) (fun _ wr => wr.rangeLeft b (w.heap.size + 1))
  case atStart => exact ⟨_, _, _, [], HRG0.out, HP0.out, toldC_start D, by simp; omega, hB0, by omega⟩
  case round =>
    obtain ⟨left, cnt, D', ys, hrg, hI, hT, hlen, hB, hz⟩ := hrel
    have HI := Lib.hid hI
    have HT := Lib.hid hT
    clear HRG0 HP0 hB0 hs0' hI hT
    go_wp2_with (first
      | (at_next; refine next_chords _ rfl _ rfl b (w.heap.size + 1) n _ _ _ rfl hrg ?_ ?_))
    · intro hl0
      have hend := toldC_end HT.out K1.out K2.out hl0
      have HEND := Lib.hid hend
      have hle : ys.length ≤ 1000000 := by omega
      clear hend hl0
      go_wp2_with (first | (go_at_call 123; go_loud (refine (sortC_any _ ys w.heap.size _ HI.out hle).mono ?_); rintro e w2 ⟨rfl, hp2, hg2⟩; have HP2 := Lib.hid hp2; have HG2 := Lib.hid hg2; clear hp2 hg2))
      go_ret
      exact ⟨_, sortL ys, rfl, HP2.out.inn, sortL_sorted ys HEND.out.1, fun x => (mem_sortL ys x).trans (HEND.out.2 x), hB.grown HG2.out (by omega) (fun k hk => by have := HI.out.own k hk; omega)⟩
    · intro c1 c2 u kl w1 cnt1 hkey hlk hrg1 hlt hg1 hs1 hen
      have hap := ranges_apart hrg HI.out
      have hI1 := HI.out.grown hg1 (Or.inr hap)
      have hB1 : Below b w w1 := hB.grown hg1 (by omega) (fun k hk => by cases hk; omega)
      have hT1 := toldC_step HT.out hkey hlk
      have HT1 := Lib.hid hT1
      have HI1 := Lib.hid hI1
      have HB1 := Lib.hid hB1
      have HL := Lib.hid (show w.heap.size + 2 ≤ w1.heap.size by omega)
      have HR1 := Lib.hid hrg1
      have HKEY := Lib.hid hkey
      have hle : ys.length < 1000000000 := by omega
      have HS1 := Lib.hid hs1
      clear hap hI1 hB1 hT1 hlk hrg1 hkey hs1
      go_wp2_with (first
        | (at_builtin; refine wpList_append_pair rfl _ _ 31 rfl w.heap.size 61 Try.underlying31 info_chord _ ys rfl (HI1.out.grown (World.grownBy_alloc _ _ none) (by cases hv : (_ : Value).ownBlock with | none => exact .inl rfl | some k => exact .inr (by simp))) c1 c2 (by rw [World.size_alloc]; rfl) hle (by have := HL.out; simp; omega) ?_; intro v2 w2 hI2 hg2; have HI2 := Lib.hid hI2; have HG2 := Lib.hid hg2; (have hbx := box_grown HI1.out _ hg2); (have e0 : w2.cell? ⟨w1.heap.size, 0, none⟩ = some (.int .i64 c1) := cell_of_row _ _ 0 _ _ _ hbx); (have e1 : w2.cell? ⟨w1.heap.size, 1, none⟩ = some (.int .i64 c2) := cell_of_row _ _ 1 _ _ _ hbx); (have HR2 := Lib.hid ((HR1.out.alloc (.cells #[.int .i64 c1, .int .i64 c2] 61)).kept hg2 (fun e => by have := HI1.out.own _ e.symm; omega) (fun e => ranges_apart HR1.out HI1.out e.symm))); clear hI2 hg2 hbx)
        | (at_delete; refine wpList_delete_ranges _ rfl _ _ 124 61 rfl 4 keyC Try.underlying124 _ b (w.heap.size + 1) n _ _ _ rfl HR2.out (.agg #[.int .i64 c1, .int .i64 c2]) kl rfl HKEY.out ?_; intro w3 cnt3 hrg3 hle3 hturn; have HR3 := Lib.hid hrg3; have HT3 := Lib.hid hturn; clear hrg3 hturn; go_frame))
      have hrg3 := HR3.out
      rw [strike_twice] at hrg3
      have hgr := HT3.out.grown
      have hsz2 := HG2.out.size
      rw [World.size_alloc] at hsz2
      have hI3 := HI2.out.grown hgr (by
        cases hv : v2.ownBlock with
        | none => exact .inl rfl
        | some k => exact .inr (fun e => by have := HI2.out.own k hv; cases e; omega))
      have hB2 : Below b w w2 := (HB1.out.alloc (by have := HL.out; omega) _).grown HG2.out (by have := HL.out; simp; omega) (fun k hk => by have := HI1.out.own k hk; omega)
      have hB3 := hB2.grown hgr (by have := HL.out; omega) (fun k hk => by cases hk; omega)
      have hz3 := hgr.size
      go_roundw
      case rel => exact ⟨_, cnt3, _, ys ++ [(c1, c2)], hrg3, hI3, HT1.out, by rw [List.length_append]; simp; omega, hB3, by have := HL.out; omega⟩
      case measure => rw [hrg3.left_eq, hrg.left_eq]; omega

end Go.Proofs.Ytlkehdjfmmghjab
