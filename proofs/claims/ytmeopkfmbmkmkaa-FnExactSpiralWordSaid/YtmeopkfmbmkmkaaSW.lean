/- Spirals: both sides, and the law. -/
import Derived.Test.YtmeopkfmbmkmkaaB3
import Derived.Test.YtmeopkfmbmkmkaaSr
import Derived.Test.YtmeopkfmbmkmkaaRows
import Derived.Lib.AppendStr
import Derived.Lib.RepeatB
import Derived.Laws.BytesArg
namespace Go.Proofs.Ytmeopkfmbmkmkaa
open Go.RowKit
set_option linter.unusedVariables false

def strL (l : List UInt8) : ByteArray := ⟨l.toArray⟩

theorem strL_size (l : List UInt8) : (strL l).size = l.length := by simp [strL, ByteArray.size]

theorem strL_append (a b : List UInt8) : strL a ++ strL b = strL (a ++ b) := by
  apply ByteArray.ext
  rw [ByteArray.data_append]
  simp [strL]

theorem strAddS (a b : List UInt8) (h : a.length + b.length ≤ 1000000000) : Op.stringOp .add (strL a) (strL b) = pure (.string (strL (a ++ b))) := by
  have e : ¬ ((((strL a).size + (strL b).size : Nat) : Int) > IntKind.i64.max) := by
    rw [strL_size, strL_size]
    have : IntKind.i64.max = 9223372036854775807 := by decide +kernel
    omega
  unfold Op.stringOp
  simp only [if_neg e, strL_append]

/-- The signs of so many counts. -/
def spL (t : Nat) : Nat → List UInt8
  | 0 => []
  | k + 1 => spL t k ++ (List.replicate (k + 1) 70 ++ List.replicate t 76)

theorem spL_length (t : Nat) (ht : t ≤ 6) : ∀ k, k ≤ 10 → (spL t k).length ≤ k * 6 + k * (k + 1) / 2
  | 0, _ => by simp [spL]
  | k + 1, h => by
    have ih := spL_length t ht k (by omega)
    have e : (k + 1) * (k + 1 + 1) / 2 = k * (k + 1) / 2 + (k + 1) := by
      rw [show (k + 1) * (k + 1 + 1) = k * (k + 1) + 2 * (k + 1) by rw [Nat.mul_add, Nat.mul_one, Nat.mul_comm 2, Nat.add_mul, Nat.one_mul]; omega]
      omega
    rw [spL, List.length_append, List.length_append, List.length_replicate, List.length_replicate, e]
    omega

theorem spL_short (t : Nat) (ht : t ≤ 5) (k : Nat) (h : k ≤ 10) : (spL t k).length ≤ 115 ∧ (k = 10 → (spL t k).length ≤ 105) := by
  have hk : k = 0 ∨ k = 1 ∨ k = 2 ∨ k = 3 ∨ k = 4 ∨ k = 5 ∨ k = 6 ∨ k = 7 ∨ k = 8 ∨ k = 9 ∨ k = 10 := by omega
  rcases hk with rfl | rfl | rfl | rfl | rfl | rfl | rfl | rfl | rfl | rfl | rfl <;> simp [spL] <;> omega

theorem spL_pos (t k : Nat) (h : 0 < k) : 0 < (spL t k).length := by
  cases k with
  | zero => omega
  | succ k => simp [spL]; omega

set_option maxHeartbeats 400000 in
theorem paTimes_any (c : UInt8) (k : Nat) (hk : k ≤ 1000) (w : World) :
    Calls Try.prog 11 #[.string ⟨#[c]⟩, .int .i64 k] w fun e w' => e = .returned (.string (strL (List.replicate k c))) ∧ w = w' := by
  go_enter Try.func11, Try.ntmps11
  go_wp2
  go_loop [1, 5] (fun t s => ∃ j : Nat, j ≤ k ∧ t = .int .i64 ((k - j : Nat) : Int) ∧ s = .string (strL (List.replicate j c))) (fun t _ => (intOf t).toNat)
  case atStart => exact ⟨0, by omega, by simp, rfl⟩
  case round =>
    obtain ⟨j, hj, rfl, rfl⟩ := hrel
    obtain ⟨m, hm⟩ : ∃ m, m = k - j := ⟨_, rfl⟩
    rw [← hm]
    by_cases hlt : j < k
    · have hadd := strAddS (List.replicate j c) [c] (by simp; omega)
      rw [show strL [c] = ⟨#[c]⟩ from rfl, show List.replicate j c ++ [c] = List.replicate (j + 1) c by rw [List.replicate_succ']] at hadd
      have h0 : 0 < (m : Int) := by omega
      have hw : IntKind.i64.wrap ((m : Int) - 1) = (m : Int) - 1 := by rw [IntKind.wrap_i64]; omega
      have HM := Lib.hid (show (m : Int) - 1 = ((k - (j + 1) : Nat) : Int) by omega)
      clear hm
      go_wp2
      go_roundw
      case rel => exact ⟨j + 1, by omega, by rw [HM.out], rfl⟩
      case measure => simp [intOf]; omega
    · obtain rfl : j = k := by omega
      obtain rfl : m = 0 := by omega
      clear hm
      go_wp2
      go_ret
      exact ⟨rfl, rfl⟩

set_option maxHeartbeats 400000 in
theorem paSpiral_any (k t : Nat) (hk : k ≤ 10) (ht : t ≤ 5) (w : World) :
    Calls Try.prog 8 #[.int .i64 k, .int .i64 t] w fun e w' => e = .returned (.tuple #[.string (strL (spL t k)), .bool true]) ∧ w = w' := by
  go_enter Try.func8, Try.ntmps8
  go_wp2
  go_loop [6, 7] (fun s i => ∃ j : Nat, j ≤ k ∧ i = .int .i64 ((j : Int) + 1) ∧ s = .string (strL (spL t j))) (fun _ i => k + 1 - (intOf i).toNat)
  case atStart => exact ⟨0, by omega, by simp, rfl⟩
  case round =>
    obtain ⟨j, hj, rfl, rfl⟩ := hrel
    have hsh := (spL_short t ht j (by omega)).1
    by_cases hlt : j < k
    · have hadd := strAddS (List.replicate (j + 1) 70) (List.replicate t 76) (by simp; omega)
      have hadd2 := strAddS (spL t j) (List.replicate (j + 1) 70 ++ List.replicate t 76) (by simp; omega)
      have hle : (j : Int) + 1 ≤ (k : Int) := by omega
      have HN := Lib.hid (show ((j : Int) + 1) = ((j + 1 : Nat) : Int) by omega)
      have hw : IntKind.i64.wrap ((j : Int) + 1 + 1) = ((j : Int) + 1 + 1) := by rw [IntKind.wrap_i64]; omega
      go_wp2_with (first | (go_at_call 11; first | (rw [HN.out]; (with_reducible refine (paTimes_any 70 (j + 1) (by omega) _).mono ?_); rintro e w1 ⟨rfl, rfl⟩) | ((with_reducible refine (paTimes_any 76 t (by omega) _).mono ?_); rintro e w1 ⟨rfl, rfl⟩)))
      go_roundw
      case rel => exact ⟨j + 1, by omega, by go_num, rfl⟩
      case measure => simp [intOf]; omega
    · obtain rfl : j = k := by omega
      have hle : ¬ (j : Int) + 1 ≤ (j : Int) := by omega
      have hlen : ((strL (spL t j)).size : Int) ≤ 120 := by rw [strL_size]; omega
      go_wp2
      go_ret2
      exact ⟨rfl, rfl⟩

theorem Try.repExtra : Go.Proofs.Builder.Extra Try.prog Try.rep_ren where
  sizeBuilder := by kernel_rfl
  liesBuilder := by kernel_rfl
  t5 := Try.rep.t5
  a5 := Try.rep.a5
  z5 := Try.rep.z5
  v5 := Try.rep.v5
  infoByte := by kernel_rfl
  cellsByte := by kernel_rfl
  sizeByte := by kernel_rfl
  neB5 := by decide

theorem repeatL_rep (b : UInt8) : ∀ c, Lib.repeatL [b] c = List.replicate c b
  | 0 => rfl
  | c + 1 => by rw [Lib.repeatL, repeatL_rep b c]; rfl

theorem repeat_any (b : UInt8) (c : Nat) (hc : c ≤ 1000) (w : World) :
    Calls Try.prog 10 #[.string ⟨#[b]⟩, .int .i64 c] w fun e w' => e = .returned (.string (strL (List.replicate c b))) ∧ Below w.heap.size w w' := by
  refine (Any.strings_Repeat Try.rep Try.repExtra ⟨#[b]⟩ c w (by omega) (by show 1 * c ≤ _; omega)).mono ?_
  rintro e w' ⟨rfl, hb⟩
  exact ⟨by rw [show (⟨#[b]⟩ : ByteArray).data.toList = [b] from rfl, repeatL_rep]; rfl, hb⟩

/-- Bytes of the call's own. -/
def BOwn (e : TypeId) (w : World) (B : Nat) (v : Value) (bs : List UInt8) : Prop := w.ownsRow B e 1 v bs.length (bs.map fun b => Value.int .u8 b.toNat)

theorem BOwn.later {e : TypeId} {w w' : World} {B : Nat} {v : Value} {bs : List UInt8} (h : BOwn e w B v bs) (hb : Below w.heap.size w w') : BOwn e w' B v bs :=
  World.ownsRow.kept h (Below.by hb) (by cases hv : v.ownBlock with | none => exact .inl rfl | some k => exact .inr (by simp))

theorem BOwn.own {e : TypeId} {w : World} {B : Nat} {v : Value} {bs : List UInt8} (h : BOwn e w B v bs) : ∀ k, v.ownBlock = some k → B ≤ k ∧ k < w.heap.size := World.ownsRow.lt h

theorem wpList_append_bytes {P : Program} {wr : World} {ops : Array Oper} {rest : List Oper} {o : Oper} {a : Act} {Q : Exit → Act → World → Prop} (hgd : o.guard = none) (s x : Operand) (t u : TypeId)
    (ho : o.op = .call { callee := .builtin .append, args := #[s, x], argTypes := #[t, u] }) (base : Nat) (e : TypeId) (ht : P.underlying t = some (.slice e)) (hu : P.underlying u = some .string)
    (hi : (P.info? e).map (fun i => (i.zero, i.size, i.bytes)) = some (some (.int .u8 0), 1, 1)) (v : Value) (bs : List UInt8) (hs : a.eval s = v) (hI : BOwn e wr base v bs) (cs : List UInt8)
    (hx : a.eval x = .string (strL cs)) (hn : bs.length + cs.length ≤ 1000000) (hbase : base ≤ wr.heap.size)
    (h : ∀ v' w', BOwn e w' base v' (bs ++ cs) → wr.grownBy w' v.ownBlock → wpList P ops Q rest (a.put o.dst v') w') :
    wpList P ops Q (o :: rest) a wr := by
  obtain ⟨i, hi, hz0, hz1, hz2⟩ := info_parts hi
  refine Lib.wpList_append_own_string _ hgd s x t u ho base e i ht hu hi hz0 hz1 hz2 v bs.length _ hs hI (strL cs) hx (by rw [strL_size]; unfold maxLen; omega) (by rw [strL_size]; omega) hbase ?_
  intro v' w' h1 h2 _
  refine h v' w' ?_ h2
  unfold BOwn
  rw [List.length_append, List.map_append, ← strL_size cs]
  exact h1

theorem strOfNums_strL (bs : List UInt8) : strOfNums (bs.map fun b => (b.toNat : Int)) = strL bs := by
  unfold strOfNums strL
  congr 2
  rw [List.map_map]
  conv => rhs; rw [← List.map_id bs]
  refine List.map_congr_left fun b _ => ?_
  simp

theorem info_byteS : (Try.prog.info? 5).map (fun i => (i.zero, i.size, i.bytes)) = some (some (.int .u8 0), 1, 1) := by kernel_rfl

theorem grid_cases (g : Int) : (g = 4 ∨ g = 6) ∨ ((g == 4) = false ∧ (g == 6) = false) := by
  by_cases h4 : g = 4
  · exact .inl (.inl h4)
  · by_cases h6 : g = 6
    · exact .inl (.inr h6)
    · exact .inr ⟨beq_eq_false_iff_ne.2 h4, beq_eq_false_iff_ne.2 h6⟩

set_option maxHeartbeats 400000 in
theorem isGrid_yes (g : Int) (w : World) (h : g = 4 ∨ g = 6) : Calls Try.prog 9 #[.int .i64 g] w fun e w' => e = .returned (.bool true) ∧ w = w' := by
  rcases h with rfl | rfl
  · go_enter Try.func9, Try.ntmps9
    go_wp2
    go_ret
    exact ⟨rfl, rfl⟩
  · go_enter Try.func9, Try.ntmps9
    go_wp2
    go_ret
    exact ⟨rfl, rfl⟩

set_option maxHeartbeats 400000 in
theorem isGrid_no (g : Int) (w : World) (h : (g == 4) = false ∧ (g == 6) = false) : Calls Try.prog 9 #[.int .i64 g] w fun e w' => e = .returned (.bool false) ∧ w = w' := by
  obtain ⟨h4, h6⟩ := h
  go_enter Try.func9, Try.ntmps9
  go_wp2
  go_ret
  exact ⟨rfl, rfl⟩

set_option maxHeartbeats 400000 in
theorem paGrid_yes (g : Int) (w : World) (h : g = 4 ∨ g = 6) : Calls Try.prog 6 #[.int .i64 g] w fun e w' => e = .returned (.bool true) ∧ w = w' := by
  rcases h with rfl | rfl
  · go_enter Try.func6, Try.ntmps6
    go_wp2
    go_ret
    exact ⟨rfl, rfl⟩
  · go_enter Try.func6, Try.ntmps6
    go_wp2
    go_ret
    exact ⟨rfl, rfl⟩

set_option maxHeartbeats 400000 in
theorem paGrid_no (g : Int) (w : World) (h : (g == 4) = false ∧ (g == 6) = false) : Calls Try.prog 6 #[.int .i64 g] w fun e w' => e = .returned (.bool false) ∧ w = w' := by
  obtain ⟨h4, h6⟩ := h
  go_enter Try.func6, Try.ntmps6
  go_wp2
  go_ret
  exact ⟨rfl, rfl⟩

set_option maxHeartbeats 400000 in
theorem l1InS_yes (n lo hi : Int) (w : World) (h : lo ≤ n ∧ n ≤ hi) :
    Calls Try.prog 7 #[.int .i64 n, .int .i64 lo, .int .i64 hi] w fun e w' => e = .returned (.bool true) ∧ w = w' := by
  obtain ⟨h1, h2⟩ := h
  go_enter Try.func7, Try.ntmps7
  go_wp2
  go_ret
  exact ⟨rfl, rfl⟩

set_option maxHeartbeats 400000 in
theorem l1InS_no (n lo hi : Int) (w : World) (h : ¬ (lo ≤ n ∧ n ≤ hi)) :
    Calls Try.prog 7 #[.int .i64 n, .int .i64 lo, .int .i64 hi] w fun e w' => e = .returned (.bool false) ∧ w = w' := by
  by_cases h1 : lo ≤ n
  · have h2 : ¬ n ≤ hi := fun e => h ⟨h1, e⟩
    clear h
    go_enter Try.func7, Try.ntmps7
    go_wp2
    go_ret
    exact ⟨rfl, rfl⟩
  · clear h
    go_enter Try.func7, Try.ntmps7
    go_wp2
    go_ret
    exact ⟨rfl, rfl⟩

set_option maxHeartbeats 2000000 in
set_option maxRecDepth 100000 in
theorem iSpiral_yes (g : Int) (k t : Nat) (w : World) (hg : g = 4 ∨ g = 6) (hk : 1 ≤ k ∧ k ≤ 10) (ht : (t : Int) < g) :
    Calls Try.prog 5 #[.int .i64 g, .int .i64 k, .int .i64 t] w fun e w' => e = .returned (.tuple #[.string (strL (spL t k)), .bool true]) ∧ Below w.heap.size w w' := by
  have ht5 : t ≤ 5 := by omega
  have c1 : ¬ (k : Int) < 1 := by omega
  have c2 : ¬ (10 : Int) < (k : Int) := by omega
  have c3 : ¬ (t : Int) < 0 := by omega
  have c4 : ¬ g ≤ (t : Int) := by omega
  go_enter Try.func5, Try.ntmps5
  go_wp2_with (first | (go_at_call 9; (with_reducible refine (isGrid_yes _ _ hg).mono ?_); rintro e w1 ⟨rfl, rfl⟩))
  clear c1 c2 c3 c4
  go_loopw [8, 9] (fun s i wr => ∃ j : Nat, j ≤ k ∧ i = .int .i64 ((j : Int) + 1) ∧ BOwn 5 wr w.heap.size s (spL t j) ∧ Below w.heap.size w wr) (fun _ i _ => k + 1 - (intOf i).toNat)
  case atStart => exact ⟨0, by omega, by simp, World.ownsRow_nil _ _ _ _, Below.refl _ _⟩
  case round =>
    obtain ⟨j, hj, rfl, hI, hB⟩ := hrel
    have hsh := (spL_short t ht5 j (by omega)).1
    have hz := hB.size
    by_cases hlt : j < k
    · have hle : (j : Int) + 1 ≤ (k : Int) := by omega
      have HN := Lib.hid (show ((j : Int) + 1) = ((j + 1 : Nat) : Int) by omega)
      have hw : IntKind.i64.wrap ((j : Int) + 1 + 1) = ((j : Int) + 1 + 1) := by rw [IntKind.wrap_i64]; omega
      have HI := Lib.hid hI
      have HB := Lib.hid hB
      clear hI hB
      go_wp2_with (first
        | (go_at_call 10; first | (rw [HN.out]; (with_reducible refine (repeat_any 70 (j + 1) (by omega) _).mono ?_); rintro e w1 ⟨rfl, hb1⟩; (have HI1 := Lib.hid (HI.out.later hb1)); (have HB1 := Lib.hid (HB.out.trans (hb1.mono hz))); (have hz1 := hb1.size); clear hb1) | ((with_reducible refine (repeat_any 76 t (by omega) _).mono ?_); rintro e w3 ⟨rfl, hb3⟩; (have HI3 := Lib.hid (HI2.out.later hb3)); (have HB3 := Lib.hid (HB2.out.trans (hb3.mono (by omega)))); (have hz3 := hb3.size); clear hb3))
        | (at_builtin; first
            | (refine wpList_append_bytes rfl _ _ 27 9 rfl w.heap.size 5 Try.underlying27 Try.underlying9 info_byteS _ _ rfl HI3.out (List.replicate t 76) rfl (by simp; omega) (by omega) ?_; intro v4 w4 hI4 hg4; have HI4 := Lib.hid hI4; have HG4 := Lib.hid hg4; clear hI4 hg4)
            | (refine wpList_append_bytes rfl _ _ 27 9 rfl w.heap.size 5 Try.underlying27 Try.underlying9 info_byteS _ _ rfl HI1.out (List.replicate (j + 1) 70) rfl (by simp; omega) (by omega) ?_; intro v2 w2 hI2 hg2; have HI2 := Lib.hid hI2; have HB2 := Lib.hid (HB1.out.grown hg2 (by omega) (fun k hk => (HI1.out.own k hk).1)); have hz2 := hg2.size; clear hI2 hg2)))
      go_roundw
      case rel => exact ⟨j + 1, by omega, by go_num, by rw [spL, ← List.append_assoc]; exact HI4.out, HB3.out.grown HG4.out (by omega) (fun k hk => (HI3.out.own k hk).1)⟩
      case measure => simp [intOf]; omega
    · obtain rfl : j = k := by omega
      have hle : ¬ (j : Int) + 1 ≤ (j : Int) := by omega
      have hpos := spL_pos t j (by omega)
      have hI0 := hI
      obtain ⟨_, h1 | ⟨gb, cap, cur, rfl, hbg, hgb, hnc, hml, hcs, htk⟩⟩ := hI
      · omega
      · have hcell : ∀ i, i < (spL t j).length → wr.cell? ⟨gb, 0 + i, none⟩ = some (.int .u8 (((spL t j).map fun b => (b.toNat : Int)).getD i 0)) := fun i hi => by
          rw [Nat.zero_add, World.ownsRow.cellAt hI0 i (by omega)]
          simp [List.getElem?_map, List.getElem?_eq_getElem hi, List.getD]
        have hcv := run_convert_bytes_arg (P := Try.prog) wr 27 5 Try.underlying27 Try.underlying5 gb 0 (spL t j).length cap ((spL t j).map fun b => (b.toNat : Int)) (by simp) hcell 9 Try.underlying9
        rw [strOfNums_strL] at hcv
        obtain ⟨ln, hln⟩ : ∃ n, n = (spL t j).length := ⟨_, rfl⟩
        rw [← hln] at hcv hsh
        have hgt : ¬ (120 : Int) < (ln : Int) := by omega
        have HB := Lib.hid hB
        rw [← hln]
        clear hcell hgb hcs htk hml hnc hbg hI0 hln hB
        go_wp2
        go_ret2
        exact ⟨rfl, HB.out⟩

set_option maxHeartbeats 400000 in
theorem sSpiral_yes (g : Int) (k t : Nat) (w : World) (hg : g = 4 ∨ g = 6) (hk : 1 ≤ k ∧ k ≤ 10) (ht : (t : Int) < g) :
    Calls Try.prog 4 #[.int .i64 g, .int .i64 k, .int .i64 t] w fun e w' => e = .returned (.tuple #[.string (strL (spL t k)), .bool true]) ∧ Below w.heap.size w w' := by
  have hw : IntKind.i64.wrap (g - 1) = g - 1 := by rw [IntKind.wrap_i64]; omega
  go_enter Try.func4, Try.ntmps4
  go_wp2_with (first | (go_at_call 6; (with_reducible refine (paGrid_yes _ _ hg).mono ?_); rintro e w1 ⟨rfl, rfl⟩) | (go_at_call 7; (with_reducible refine (l1InS_yes _ _ _ _ (by omega)).mono ?_); rintro e w1 ⟨rfl, rfl⟩) | (go_at_call 8; (with_reducible refine (paSpiral_any k t hk.2 (by omega) _).mono ?_); rintro e w1 ⟨rfl, rfl⟩))
  go_ret2
  exact ⟨rfl, Below.refl _ _⟩

set_option maxHeartbeats 400000 in
theorem iSpiral_no_a (g k t : Int) (w : World) (hg : (g == 4) = false ∧ (g == 6) = false) :
    Calls Try.prog 5 #[.int .i64 g, .int .i64 k, .int .i64 t] w fun e w' => e = .returned (.tuple #[.string ⟨#[]⟩, .bool false]) ∧ Below w.heap.size w w' := by
  go_enter Try.func5, Try.ntmps5
  go_wp2_with (first | (go_at_call 9; (with_reducible refine (isGrid_no _ _ hg).mono ?_); rintro e w1 ⟨rfl, rfl⟩))
  go_ret2
  exact ⟨rfl, Below.refl _ _⟩

set_option maxHeartbeats 400000 in
theorem iSpiral_no_b (g k t : Int) (w : World) (hg : g = 4 ∨ g = 6) (c1 : k < 1) :
    Calls Try.prog 5 #[.int .i64 g, .int .i64 k, .int .i64 t] w fun e w' => e = .returned (.tuple #[.string ⟨#[]⟩, .bool false]) ∧ Below w.heap.size w w' := by
  go_enter Try.func5, Try.ntmps5
  go_wp2_with (first | (go_at_call 9; (with_reducible refine (isGrid_yes _ _ hg).mono ?_); rintro e w1 ⟨rfl, rfl⟩))
  go_ret2
  exact ⟨rfl, Below.refl _ _⟩

set_option maxHeartbeats 400000 in
theorem iSpiral_no_c (g k t : Int) (w : World) (hg : g = 4 ∨ g = 6) (c1 : ¬ k < 1) (c2 : 10 < k) :
    Calls Try.prog 5 #[.int .i64 g, .int .i64 k, .int .i64 t] w fun e w' => e = .returned (.tuple #[.string ⟨#[]⟩, .bool false]) ∧ Below w.heap.size w w' := by
  go_enter Try.func5, Try.ntmps5
  go_wp2_with (first | (go_at_call 9; (with_reducible refine (isGrid_yes _ _ hg).mono ?_); rintro e w1 ⟨rfl, rfl⟩))
  go_ret2
  exact ⟨rfl, Below.refl _ _⟩

set_option maxHeartbeats 400000 in
theorem iSpiral_no_d (g k t : Int) (w : World) (hg : g = 4 ∨ g = 6) (c1 : ¬ k < 1) (c2 : ¬ 10 < k) (c3 : t < 0) :
    Calls Try.prog 5 #[.int .i64 g, .int .i64 k, .int .i64 t] w fun e w' => e = .returned (.tuple #[.string ⟨#[]⟩, .bool false]) ∧ Below w.heap.size w w' := by
  go_enter Try.func5, Try.ntmps5
  go_wp2_with (first | (go_at_call 9; (with_reducible refine (isGrid_yes _ _ hg).mono ?_); rintro e w1 ⟨rfl, rfl⟩))
  go_ret2
  exact ⟨rfl, Below.refl _ _⟩

set_option maxHeartbeats 400000 in
theorem iSpiral_no_e (g k t : Int) (w : World) (hg : g = 4 ∨ g = 6) (c1 : ¬ k < 1) (c2 : ¬ 10 < k) (c3 : ¬ t < 0) (c4 : g ≤ t) :
    Calls Try.prog 5 #[.int .i64 g, .int .i64 k, .int .i64 t] w fun e w' => e = .returned (.tuple #[.string ⟨#[]⟩, .bool false]) ∧ Below w.heap.size w w' := by
  go_enter Try.func5, Try.ntmps5
  go_wp2_with (first | (go_at_call 9; (with_reducible refine (isGrid_yes _ _ hg).mono ?_); rintro e w1 ⟨rfl, rfl⟩))
  go_ret2
  exact ⟨rfl, Below.refl _ _⟩

set_option maxHeartbeats 400000 in
theorem sSpiral_no_a (g k t : Int) (w : World) (hg : (g == 4) = false ∧ (g == 6) = false) :
    Calls Try.prog 4 #[.int .i64 g, .int .i64 k, .int .i64 t] w fun e w' => e = .returned (.tuple #[.string ⟨#[]⟩, .bool false]) ∧ Below w.heap.size w w' := by
  go_enter Try.func4, Try.ntmps4
  go_wp2_with (first | (go_at_call 6; (with_reducible refine (paGrid_no _ _ hg).mono ?_); rintro e w1 ⟨rfl, rfl⟩))
  go_ret2
  exact ⟨rfl, Below.refl _ _⟩

set_option maxHeartbeats 400000 in
theorem sSpiral_no_b (g k t : Int) (w : World) (hg : g = 4 ∨ g = 6) (c : ¬ (1 ≤ k ∧ k ≤ 10)) :
    Calls Try.prog 4 #[.int .i64 g, .int .i64 k, .int .i64 t] w fun e w' => e = .returned (.tuple #[.string ⟨#[]⟩, .bool false]) ∧ Below w.heap.size w w' := by
  go_enter Try.func4, Try.ntmps4
  go_wp2_with (first | (go_at_call 6; (with_reducible refine (paGrid_yes _ _ hg).mono ?_); rintro e w1 ⟨rfl, rfl⟩) | (go_at_call 7; (with_reducible refine (l1InS_no _ _ _ _ c).mono ?_); rintro e w1 ⟨rfl, rfl⟩))
  go_ret2
  exact ⟨rfl, Below.refl _ _⟩

set_option maxHeartbeats 400000 in
theorem sSpiral_no_c (g k t : Int) (w : World) (hg : g = 4 ∨ g = 6) (c : 1 ≤ k ∧ k ≤ 10) (c' : ¬ (0 ≤ t ∧ t ≤ g - 1)) (hw : IntKind.i64.wrap (g - 1) = g - 1) :
    Calls Try.prog 4 #[.int .i64 g, .int .i64 k, .int .i64 t] w fun e w' => e = .returned (.tuple #[.string ⟨#[]⟩, .bool false]) ∧ Below w.heap.size w w' := by
  go_enter Try.func4, Try.ntmps4
  go_wp2_with (first | (go_at_call 6; (with_reducible refine (paGrid_yes _ _ hg).mono ?_); rintro e w1 ⟨rfl, rfl⟩) | (go_at_call 7; (with_reducible refine (l1InS_yes _ _ _ _ c).mono ?_); rintro e w1 ⟨rfl, rfl⟩) | (go_at_call 7; (with_reducible refine (l1InS_no _ _ _ _ c').mono ?_); rintro e w1 ⟨rfl, rfl⟩))
  go_ret2
  exact ⟨rfl, Below.refl _ _⟩

theorem iSpiral_no (g k t : Int) (w : World) (h : ¬ ((g = 4 ∨ g = 6) ∧ (1 ≤ k ∧ k ≤ 10) ∧ 0 ≤ t ∧ t < g)) :
    Calls Try.prog 5 #[.int .i64 g, .int .i64 k, .int .i64 t] w fun e w' => e = .returned (.tuple #[.string ⟨#[]⟩, .bool false]) ∧ Below w.heap.size w w' := by
  rcases grid_cases g with hg | hg
  · by_cases c1 : k < 1
    · exact iSpiral_no_b g k t w hg c1
    · by_cases c2 : 10 < k
      · exact iSpiral_no_c g k t w hg c1 c2
      · by_cases c3 : t < 0
        · exact iSpiral_no_d g k t w hg c1 c2 c3
        · exact iSpiral_no_e g k t w hg c1 c2 c3 (by omega)
  · exact iSpiral_no_a g k t w hg

theorem sSpiral_no (g k t : Int) (w : World) (h : ¬ ((g = 4 ∨ g = 6) ∧ (1 ≤ k ∧ k ≤ 10) ∧ 0 ≤ t ∧ t < g)) :
    Calls Try.prog 4 #[.int .i64 g, .int .i64 k, .int .i64 t] w fun e w' => e = .returned (.tuple #[.string ⟨#[]⟩, .bool false]) ∧ Below w.heap.size w w' := by
  rcases grid_cases g with hg | hg
  · by_cases c : 1 ≤ k ∧ k ≤ 10
    · exact sSpiral_no_c g k t w hg c (by omega) (by rw [IntKind.wrap_i64]; omega)
    · exact sSpiral_no_b g k t w hg c
  · exact sSpiral_no_a g k t w hg

set_option maxHeartbeats 1000000 in
theorem core_SpiralWord (g k t : Int) (x : ByteArray) (b : Bool) (w : World)
    (hs : ∀ W, Calls Try.prog 4 #[.int .i64 g, .int .i64 k, .int .i64 t] W fun e w' => e = .returned (.tuple #[.string x, .bool b]) ∧ Below W.heap.size W w')
    (hi : ∀ W, Calls Try.prog 5 #[.int .i64 g, .int .i64 k, .int .i64 t] W fun e w' => e = .returned (.tuple #[.string x, .bool b]) ∧ Below W.heap.size W w') :
    Calls Try.prog 3 #[.int .i64 g, .int .i64 k, .int .i64 t] w fun e w' => e = .returned (.bool true) ∧ Below w.heap.size w w' := by
  have HS := Lib.hid hs
  have HI := Lib.hid hi
  clear hs hi
  go_enter Try.func3, Try.ntmps3
  go_wp2_with (first | (go_at_call 4; (with_reducible refine (HS.out _).mono ?_); rintro e w1 ⟨rfl, hb1⟩) | (go_at_call 5; (with_reducible refine (HI.out _).mono ?_); rintro e w2 ⟨rfl, hb2⟩))
  go_ret
  exact ⟨rfl, hb1.trans (hb2.mono hb1.size)⟩

theorem walk_SpiralWord (g k t : Int) (w : World) (_ : (Lit.int .i64 g).wf = true) (_ : (Lit.int .i64 k).wf = true) (_ : (Lit.int .i64 t).wf = true) :
    Calls Try.prog 3 #[.int .i64 g, .int .i64 k, .int .i64 t] w fun e w' => e = .returned (.bool true) ∧ Below w.heap.size w w' := by
  by_cases h : (g = 4 ∨ g = 6) ∧ (1 ≤ k ∧ k ≤ 10) ∧ 0 ≤ t ∧ t < g
  · obtain ⟨k, rfl⟩ := Int.eq_ofNat_of_zero_le (show 0 ≤ k by omega)
    obtain ⟨t, rfl⟩ := Int.eq_ofNat_of_zero_le (show 0 ≤ t by omega)
    exact core_SpiralWord g k t _ _ w (fun W => sSpiral_yes g k t W h.1 (by omega) h.2.2.2) (fun W => iSpiral_yes g k t W h.1 (by omega) h.2.2.2)
  · exact core_SpiralWord g k t _ _ w (fun W => sSpiral_no g k t W h) (fun W => iSpiral_no g k t W h)

end Go.Proofs.Ytmeopkfmbmkmkaa
