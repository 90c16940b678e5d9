/- Regions: diagonals, and the fan of a point. -/
import Derived.Test.YtmfbbbnenngehaaA3
import Derived.Test.YtmfbbbnenngehaaKA
import Derived.Test.YtmfbbbnenngehaaZ7
import Derived.Test.YtmfbbbnenngehaaP6
import Derived.Test.YtmfbbbnenngehaaRows
namespace Go.Proofs.Ytmfbbbnenngehaa
open Go.RowKit
set_option linter.unusedVariables false

/-- Is a chord a diagonal? -/
def diagC (p : Int) (c : Int × Int) : Bool := decide (1 < c.2 - c.1 ∧ c.2 - c.1 < p - 1)

set_option maxHeartbeats 400000 in
theorem isDiagonal_lit (p a b : Int) (t : Bool) (w : World) (hp : 3 ≤ p ∧ p ≤ 60) (ha : 0 ≤ a ∧ a ≤ 60) (hb : 0 ≤ b ∧ b ≤ 60) (ht : diagC p (a, b) = t) :
    Calls Try.prog 74 #[.int .i64 p, .agg #[.int .i64 a, .int .i64 b]] w fun e w' => e = .returned (.bool t) ∧ Below w.heap.size w w' := by
  rw [← ht]
  clear ht
  have hw1 : IntKind.i64.wrap (b - a) = b - a := by rw [IntKind.wrap_i64]; omega
  have hw2 : IntKind.i64.wrap (p - 1) = p - 1 := by rw [IntKind.wrap_i64]; omega
  obtain ⟨s, hs⟩ : ∃ s, decide (1 < b - a) = s := ⟨_, rfl⟩
  obtain ⟨r, hr⟩ : ∃ s, decide (b - a < p - 1) = s := ⟨_, rfl⟩
  have he : diagC p (a, b) = (s && r) := by rw [← hs, ← hr]; unfold diagC; simp
  rw [he]
  clear he
  go_enter Try.func74, Try.ntmps74
  cases s <;> cases r
  all_goals
    go_wp2
    go_ret
    exact ⟨rfl, by go_grown⟩

set_option maxHeartbeats 400000 in
theorem reDiagonal_lit (p a b : Int) (t : Bool) (w : World) (hp : 3 ≤ p ∧ p ≤ 60) (hab : 0 ≤ a ∧ a < b ∧ b < p) (ht : diagC p (a, b) = t) :
    Calls Try.prog 69 #[.int .i64 p, .agg #[.int .i64 a, .int .i64 b]] w fun e w' => e = .returned (.bool t) ∧ Below w.heap.size w w' := by
  have he : decide (1 < lenC p (a, b)) = t := by
    rw [← ht]
    unfold diagC lenC
    rw [decide_eq_decide]
    simp only
    omega
  have hp2 := hp.2
  obtain ⟨l, hl⟩ : ∃ l, lenC p (a, b) = l := ⟨_, rfl⟩
  rw [hl] at he
  have HL := Lib.hid hl
  clear hl ht
  subst he
  go_enter Try.func69, Try.ntmps69
  go_wp2_with (first | (go_at_call 90; (with_reducible refine (cdLength_any p a b _ hp2 hab).mono ?_); rw [HL.out]; rintro e w1 ⟨rfl, hb1⟩))
  go_ret
  exact ⟨rfl, Below.trans (by go_grown) (hb1.mono (by simp))⟩

/-- The diagonals from a point to the first ones. -/
def fanL (p q : Nat) : Nat → List (Int × Int)
  | 0 => []
  | k + 1 => fanL p q k ++ if diagC p (mkC q k) then [mkC q k] else []

theorem fanL_yes (p q k : Nat) (h : diagC p (mkC q k) = true) : fanL p q (k + 1) = fanL p q k ++ [mkC q k] := by rw [fanL, if_pos h]
theorem fanL_no (p q k : Nat) (h : diagC p (mkC q k) = false) : fanL p q (k + 1) = fanL p q k := by rw [fanL, if_neg (by rw [h]; simp), List.append_nil]

theorem mem_fanL (p q k : Nat) (x : Int × Int) (h : x ∈ fanL p q k) : ∃ j : Nat, j < k ∧ diagC p (mkC q j) = true ∧ x = mkC q j := by
  induction k with
  | zero => simp [fanL] at h
  | succ k ih =>
    rw [fanL, List.mem_append] at h
    rcases h with h | h
    · obtain ⟨j, h1, h2⟩ := ih h
      exact ⟨j, by omega, h2⟩
    · split at h
      · rename_i hd
        simp at h
        exact ⟨k, by omega, hd, h⟩
      · simp at h

theorem fan_less (p q j k : Nat) (h : j < k) (h1 : diagC p (mkC q j) = true) (h2 : diagC p (mkC q k) = true) : lessC (mkC q j) (mkC q k) = true := by
  rw [lessC_iff]
  unfold diagC mkC at h1 h2
  rw [decide_eq_true_eq] at h1 h2
  unfold mkC
  simp only at h1 h2 ⊢
  omega

theorem insC_last (c : Int × Int) (xs : List (Int × Int)) (h : ∀ x ∈ xs, lessC x c = true) : insC c xs = xs ++ [c] := by
  induction xs with
  | nil => rfl
  | cons x r ih =>
    rw [insC, if_pos (h x (by simp)), ih fun y hy => h y (by simp [hy])]
    rfl

theorem fan_put (p q k : Nat) (h : diagC p (mkC q k) = true) : putC (fanL p q k) (mkC q k) = fanL p q (k + 1) := by
  rw [putC_ins, fanL_yes p q k h]
  refine insC_last _ _ fun x hx => ?_
  obtain ⟨j, h1, h2, rfl⟩ := mem_fanL p q k x hx
  exact fan_less p q j k h1 h2 h

def diagN (p q k : Nat) : Bool := decide (1 < (if k ≤ q then q - k else k - q) ∧ (if k ≤ q then q - k else k - q) + 1 < p)

theorem diagN_is (p q k : Nat) : diagC p (mkC q k) = diagN p q k := by
  unfold diagC diagN mkC
  rw [decide_eq_decide]
  simp only
  split <;> omega

theorem fanL_count (p q k : Nat) : (fanL p q k).length = (List.range k).countP (diagN p q) := by
  induction k with
  | zero => rfl
  | succ k ih =>
    rw [List.range_succ, List.countP_append, ← ih, fanL, List.length_append, diagN_is]
    cases h : diagN p q k <;> simp [h]

theorem fan_check : ((List.range 58).all fun i => (List.range (i + 3)).all fun q => (List.range (i + 3)).countP (diagN (i + 3) q) == i) = true := by decide +kernel

theorem fanL_length (p q : Nat) (hp : 3 ≤ p ∧ p ≤ 60) (hq : q < p) : (fanL p q p).length = p - 3 := by
  rw [fanL_count]
  have h1 := List.all_eq_true.1 fan_check (p - 3) (List.mem_range.2 (by omega))
  have h2 := List.all_eq_true.1 h1 q (List.mem_range.2 (by omega))
  rw [show p - 3 + 3 = p by omega, beq_iff_eq] at h2
  exact h2

theorem fanL_le (p q k : Nat) : (fanL p q k).length ≤ k := by
  rw [fanL_count]
  exact Nat.le_trans List.countP_le_length (by simp)

theorem info_chordF : (Try.prog.info? 59).map (fun i => (i.zero, i.size, i.bytes)) = some (some (.agg #[.int .i64 0, .int .i64 0]), 2, 16) := by kernel_rfl

theorem Pairs.laterF {w w' : World} {B : Nat} {e : TypeId} {v : Value} {xs : List (Int × Int)} (h : Pairs w B e v xs) (hb : Below w.heap.size w w') : Pairs w' B e v xs :=
  World.ownsRow.kept h (Below.by hb) (by cases hv : v.ownBlock with | none => exact .inl rfl | some k => exact .inr (by simp))

set_option maxHeartbeats 1000000 in
theorem iFanOf_yes (p q : Nat) (w : World) (hp : 3 ≤ p ∧ p ≤ 60) (hq : q < p) (hm : p ≤ 43) :
    Calls Try.prog 33 #[.int .i64 p, .int .i64 q] w (Gives (PairsIn 59) w (fanL p q p) true) := by
  have g1 : 3 ≤ (p : Int) ∧ (p : Int) ≤ 60 := by omega
  have g2 : 0 ≤ (q : Int) ∧ (q : Int) < (p : Int) := by omega
  go_enter Try.func33, Try.ntmps33
  go_wp2_with (first | (go_at_call 72; (with_reducible refine (isPointCount_yes _ _ g1).mono ?_); rintro e w1 ⟨rfl, rfl⟩) | (go_at_call 63; (with_reducible refine (isPoint_yes _ _ _ g2).mono ?_); rintro e w1 ⟨rfl, rfl⟩))
  go_loopw [6, 19] (fun u i wr => ∃ (k : Nat), k ≤ p ∧ i = .int .i64 k ∧ Pairs wr w.heap.size 59 u (fanL p q k) ∧ Below w.heap.size w wr) (fun _ i _ => p - (intOf i).toNat)
  case atStart => exact ⟨0, by omega, rfl, World.ownsRow_nil _ _ _ _, Below.refl _ _⟩
  case round =>
    obtain ⟨k, hk, rfl, hI, hB⟩ := hrel
    have hz := hB.size
    have HI := Lib.hid hI
    clear hI
    by_cases hlt : k < p
    · have hle := fanL_le p q k
      obtain ⟨x, hx⟩ : ∃ x, min (q : Int) (k : Int) = x := ⟨_, rfl⟩
      obtain ⟨y, hy⟩ : ∃ y, max (q : Int) (k : Int) = y := ⟨_, rfl⟩
      have hxb : 0 ≤ x ∧ x ≤ 60 := by omega
      have hyb : 0 ≤ y ∧ y ≤ 60 := by omega
      have hmk : mkC q k = (x, y) := by unfold mkC; rw [hx, hy]
      have HX := Lib.hid hx
      have HY := Lib.hid hy
      obtain ⟨t, ht⟩ : ∃ t, diagC p (x, y) = t := ⟨_, rfl⟩
      have HT := Lib.hid ht
      have hf : diagC p (mkC q k) = t := by rw [hmk]; exact ht
      cases t
      · have HS := Lib.hid (fanL_no p q k hf)
        clear hx hy hmk hf ht
        go_wp2_with (first
          | (go_at_call 73; (with_reducible refine (chordBetween_any q k _).mono ?_); rw [HX.out, HY.out]; rintro e w1 ⟨rfl, hb1⟩; (have hB1 := hB.trans (hb1.mono hz)); have hz1 := hb1.size)
          | (go_at_call 74; (refine (isDiagonal_lit p x y _ _ g1 hxb hyb HT.out).mono ?_); rintro e w2 ⟨rfl, hb2⟩; (have hb2' : Below w1.heap.size w1 w2 := Below.trans (by go_grown) (hb2.mono (by simp))); (have hB2 := hB1.trans (hb2'.mono (by omega)))))
        go_roundw
        case rel => exact ⟨k + 1, by omega, by go_num, by rw [HS.out]; exact (HI.out.laterF hb1).laterF hb2', hB2⟩
        case measure => simp [intOf]; omega
      · have HS := Lib.hid ((fanL_yes p q k hf).trans (by rw [hmk]))
        clear hx hy hmk hf ht
        go_wp2_with (first
          | (go_at_call 73; (with_reducible refine (chordBetween_any q k _).mono ?_); rw [HX.out, HY.out]; rintro e w1 ⟨rfl, hb1⟩; (have hB1 := hB.trans (hb1.mono hz)); have hz1 := hb1.size)
          | (go_at_call 74; (refine (isDiagonal_lit p x y _ _ g1 hxb hyb HT.out).mono ?_); rintro e w2 ⟨rfl, hb2⟩; (have c0 : w2.cell? ⟨w1.heap.size, 0, none⟩ = some (.int .i64 x) := cellB hb2 (by go_simp)); (have c1 : w2.cell? ⟨w1.heap.size, 1, none⟩ = some (.int .i64 y) := cellB hb2 (by go_simp)); (have hb2' : Below w1.heap.size w1 w2 := Below.trans (by go_grown) (hb2.mono (by simp))); (have hB2 := hB1.trans (hb2'.mono (by omega))); (have hz2 := hb2'.size); (have HI2 := Lib.hid ((HI.out.laterF hb1).laterF hb2')))
          | (at_builtin; refine wpList_append_pair rfl _ _ 26 rfl w.heap.size 59 Try.underlying26 info_chordF _ _ rfl HI2.out x y rfl (by omega) (by omega) ?_; intro v' w' hP' hg'; (have hB3 := HI2.out.below hB2 (by omega) hg'); (have HP' := Lib.hid hP'); clear hP'))
        go_roundw
        case rel => exact ⟨k + 1, by omega, by go_num, by rw [HS.out]; exact HP'.out, hB3⟩
        case measure => simp [intOf]; omega
    · obtain rfl : k = p := by omega
      have hlen := fanL_length k q hp hq
      obtain ⟨a0, cap, g0, rfl, _⟩ := HI.out.view
      rw [hlen] at HI ⊢
      have hgt : ¬ (40 : Int) < ((k - 3 : Nat) : Int) := by omega
      go_wp2
      go_ret2
      exact ⟨_, rfl, ⟨HI.out, fun j hj => (HI.out.own j hj).2⟩, hB⟩

set_option maxHeartbeats 1000000 in
theorem iFanOf_many (p q : Nat) (w : World) (hp : 3 ≤ p ∧ p ≤ 60) (hq : q < p) (hm : 43 < p) :
    Calls Try.prog 33 #[.int .i64 p, .int .i64 q] w (Gives (PairsIn 59) w [] false) := by
  have g1 : 3 ≤ (p : Int) ∧ (p : Int) ≤ 60 := by omega
  have g2 : 0 ≤ (q : Int) ∧ (q : Int) < (p : Int) := by omega
  go_enter Try.func33, Try.ntmps33
  go_wp2_with (first | (go_at_call 72; (with_reducible refine (isPointCount_yes _ _ g1).mono ?_); rintro e w1 ⟨rfl, rfl⟩) | (go_at_call 63; (with_reducible refine (isPoint_yes _ _ _ g2).mono ?_); rintro e w1 ⟨rfl, rfl⟩))
  go_loopw [6, 19] (fun u i wr => ∃ (k : Nat), k ≤ p ∧ i = .int .i64 k ∧ Pairs wr w.heap.size 59 u (fanL p q k) ∧ Below w.heap.size w wr) (fun _ i _ => p - (intOf i).toNat)
  case atStart => exact ⟨0, by omega, rfl, World.ownsRow_nil _ _ _ _, Below.refl _ _⟩
  case round =>
    obtain ⟨k, hk, rfl, hI, hB⟩ := hrel
    have hz := hB.size
    have HI := Lib.hid hI
    clear hI
    by_cases hlt : k < p
    · have hle := fanL_le p q k
      obtain ⟨x, hx⟩ : ∃ x, min (q : Int) (k : Int) = x := ⟨_, rfl⟩
      obtain ⟨y, hy⟩ : ∃ y, max (q : Int) (k : Int) = y := ⟨_, rfl⟩
      have hxb : 0 ≤ x ∧ x ≤ 60 := by omega
      have hyb : 0 ≤ y ∧ y ≤ 60 := by omega
      have hmk : mkC q k = (x, y) := by unfold mkC; rw [hx, hy]
      have HX := Lib.hid hx
      have HY := Lib.hid hy
      obtain ⟨t, ht⟩ : ∃ t, diagC p (x, y) = t := ⟨_, rfl⟩
      have HT := Lib.hid ht
      have hf : diagC p (mkC q k) = t := by rw [hmk]; exact ht
      cases t
      · have HS := Lib.hid (fanL_no p q k hf)
        clear hx hy hmk hf ht
        go_wp2_with (first
          | (go_at_call 73; (with_reducible refine (chordBetween_any q k _).mono ?_); rw [HX.out, HY.out]; rintro e w1 ⟨rfl, hb1⟩; (have hB1 := hB.trans (hb1.mono hz)); have hz1 := hb1.size)
          | (go_at_call 74; (refine (isDiagonal_lit p x y _ _ g1 hxb hyb HT.out).mono ?_); rintro e w2 ⟨rfl, hb2⟩; (have hb2' : Below w1.heap.size w1 w2 := Below.trans (by go_grown) (hb2.mono (by simp))); (have hB2 := hB1.trans (hb2'.mono (by omega)))))
        go_roundw
        case rel => exact ⟨k + 1, by omega, by go_num, by rw [HS.out]; exact (HI.out.laterF hb1).laterF hb2', hB2⟩
        case measure => simp [intOf]; omega
      · have HS := Lib.hid ((fanL_yes p q k hf).trans (by rw [hmk]))
        clear hx hy hmk hf ht
        go_wp2_with (first
          | (go_at_call 73; (with_reducible refine (chordBetween_any q k _).mono ?_); rw [HX.out, HY.out]; rintro e w1 ⟨rfl, hb1⟩; (have hB1 := hB.trans (hb1.mono hz)); have hz1 := hb1.size)
          | (go_at_call 74; (refine (isDiagonal_lit p x y _ _ g1 hxb hyb HT.out).mono ?_); rintro e w2 ⟨rfl, hb2⟩; (have c0 : w2.cell? ⟨w1.heap.size, 0, none⟩ = some (.int .i64 x) := cellB hb2 (by go_simp)); (have c1 : w2.cell? ⟨w1.heap.size, 1, none⟩ = some (.int .i64 y) := cellB hb2 (by go_simp)); (have hb2' : Below w1.heap.size w1 w2 := Below.trans (by go_grown) (hb2.mono (by simp))); (have hB2 := hB1.trans (hb2'.mono (by omega))); (have hz2 := hb2'.size); (have HI2 := Lib.hid ((HI.out.laterF hb1).laterF hb2')))
          | (at_builtin; refine wpList_append_pair rfl _ _ 26 rfl w.heap.size 59 Try.underlying26 info_chordF _ _ rfl HI2.out x y rfl (by omega) (by omega) ?_; intro v' w' hP' hg'; (have hB3 := HI2.out.below hB2 (by omega) hg'); (have HP' := Lib.hid hP'); clear hP'))
        go_roundw
        case rel => exact ⟨k + 1, by omega, by go_num, by rw [HS.out]; exact HP'.out, hB3⟩
        case measure => simp [intOf]; omega
    · obtain rfl : k = p := by omega
      have hlen := fanL_length k q hp hq
      obtain ⟨a0, cap, g0, rfl, _⟩ := HI.out.view
      rw [hlen] at HI ⊢
      have hgt : (40 : Int) < ((k - 3 : Nat) : Int) := by omega
      go_wp2
      go_ret2
      exact ⟨_, rfl, PairsIn.nil _ _ _ _, hB⟩

set_option maxHeartbeats 400000 in
theorem iFanOf_bad (p q : Int) (w : World) (h : ¬ ((3 ≤ p ∧ p ≤ 60) ∧ 0 ≤ q ∧ q < p)) :
    Calls Try.prog 33 #[.int .i64 p, .int .i64 q] w (Gives (PairsIn 59) w [] false) := by
  by_cases hp : 3 ≤ p ∧ p ≤ 60
  · have hq : ¬ (0 ≤ q ∧ q < p) := fun e => h ⟨hp, e⟩
    clear h
    go_enter Try.func33, Try.ntmps33
    go_wp2_with (first | (go_at_call 72; (with_reducible refine (isPointCount_yes _ _ hp).mono ?_); rintro e w1 ⟨rfl, rfl⟩) | (go_at_call 63; (with_reducible refine (isPoint_no _ _ _ hq).mono ?_); rintro e w1 ⟨rfl, rfl⟩))
    go_ret2
    exact ⟨_, rfl, PairsIn.nil _ _ _ _, Below.refl _ _⟩
  · clear h
    go_enter Try.func33, Try.ntmps33
    go_wp2_with (first | (go_at_call 72; (with_reducible refine (isPointCount_no _ _ hp).mono ?_); rintro e w1 ⟨rfl, rfl⟩))
    go_ret2
    exact ⟨_, rfl, PairsIn.nil _ _ _ _, Below.refl _ _⟩

set_option maxHeartbeats 1000000 in
theorem sFanOf_yes (p q : Nat) (w : World) (hp : 3 ≤ p ∧ p ≤ 43) (hq : q < p) :
    Calls Try.prog 32 #[.int .i64 p, .int .i64 q] w (Gives (PairsIn 59) w (fanL p q p) true) := by
  have g1 : 3 ≤ (p : Int) ∧ (p : Int) ≤ 60 := by omega
  have hw1 : IntKind.i64.wrap ((p : Int) - 1) = (p : Int) - 1 := by rw [IntKind.wrap_i64]; omega
  have hw2 : IntKind.i64.wrap ((p : Int) - 3) = (p : Int) - 3 := by rw [IntKind.wrap_i64]; omega
  have hgt : decide ((40 : Int) < (p : Int) - 3) = false := decide_eq_false (by omega)
  go_enter Try.func32, Try.ntmps32
  go_wp2_with (first | (go_at_call 68; (with_reducible refine (srPoints_yes _ _ g1).mono ?_); rintro e w1 ⟨rfl, rfl⟩) | (go_at_call 56; (with_reducible refine (l1In_yes _ _ _ _ (by omega)).mono ?_); rintro e w1 ⟨rfl, rfl⟩))
  go_loopw [6, 7] (fun u i wr => ∃ (k : Nat), k ≤ p ∧ i = .int .i64 k ∧ PairsIn 59 wr w.heap.size wr.heap.size u (fanL p q k) ∧ Below w.heap.size w wr) (fun _ i _ => p - (intOf i).toNat)
  case atStart => exact ⟨0, by omega, rfl, PairsIn.nil _ _ _ _, Below.refl _ _⟩
  case round =>
    obtain ⟨k, hk, rfl, hI, hB⟩ := hrel
    have hz := hB.size
    have HI := Lib.hid hI
    clear hI hgt hw2
    by_cases hlt : k < p
    · have hle := fanL_le p q k
      obtain ⟨x, hx⟩ : ∃ x, min (k : Int) (q : Int) = x := ⟨_, rfl⟩
      obtain ⟨y, hy⟩ : ∃ y, max (k : Int) (q : Int) = y := ⟨_, rfl⟩
      have hmk : mkC q k = (x, y) := by rw [mkC_comm]; unfold mkC; rw [hx, hy]
      have HX := Lib.hid hx
      have HY := Lib.hid hy
      by_cases hkq : k = q
      · have e1 : ((k : Int) != (q : Int)) = false := by rw [hkq]; simp
        have e2 : ((k : Int) == (q : Int)) = true := by rw [hkq]; simp
        have hf : diagC p (mkC q k) = false := by
          rw [hkq]
          unfold diagC mkC
          rw [decide_eq_false_iff_not]
          simp only
          omega
        have HS := Lib.hid (fanL_no p q k hf)
        clear hx hy hmk hf hkq
        go_wp2
        go_roundw
        case rel => exact ⟨k + 1, by omega, by go_num, by rw [HS.out]; exact HI.out, hB⟩
        case measure => simp [intOf]; omega
      · have e1 : ((k : Int) != (q : Int)) = true := bne_iff_ne.2 (by omega)
        have e2 : ((k : Int) == (q : Int)) = false := beq_eq_false_iff_ne.2 (by omega)
        have hxy : 0 ≤ x ∧ x < y ∧ y < (p : Int) := by omega
        obtain ⟨t, ht⟩ : ∃ t, diagC p (x, y) = t := ⟨_, rfl⟩
        have HT := Lib.hid ht
        have hf : diagC p (mkC q k) = t := by rw [hmk]; exact ht
        cases t
        · have HS := Lib.hid (fanL_no p q k hf)
          clear hx hy hmk hf ht hkq
          go_wp2_with (first
            | (go_at_call 70; (with_reducible refine (srChord_any k q _).mono ?_); rw [HX.out, HY.out]; rintro e w1 ⟨rfl, hb1⟩; (have hB1 := hB.trans (hb1.mono hz)); have hz1 := hb1.size)
            | (go_at_call 69; (with_reducible refine (reDiagonal_lit p x y _ _ g1 hxy HT.out).mono ?_); rintro e w2 ⟨rfl, hb2⟩; (have hB2 := hB1.trans (hb2.mono (by omega)))))
          go_roundw
          case rel => exact ⟨k + 1, by omega, by go_num, by rw [HS.out]; exact (HI.out.keep (belowSame (hb1.trans (hb2.mono hz1)) (Nat.le_refl _))).wider (Nat.le_refl _) (by have := hb2.size; omega), hB2⟩
          case measure => simp [intOf]; omega
        · have HS := Lib.hid ((fan_put p q k hf).symm.trans (by rw [hmk]))
          clear hx hy hmk hf ht hkq
          go_wp2_with (first
            | (go_at_call 71; (refine (srPut_any _ _ x y w.heap.size _ _ (HI.out.keep (belowSame hB4 (Nat.le_refl _))) (by omega) (by omega) (by omega)).mono ?_); rintro e w5 ⟨v5, rfl, hp5, hb5⟩; (have HP5 := Lib.hid hp5); clear hp5)
            | (go_at_call 69; (with_reducible refine (reDiagonal_lit p x y _ _ g1 hxy HT.out).mono ?_); rintro e w2 ⟨rfl, hb2⟩; (have hB2 := hB1.trans (hb2.mono (by omega))); have hz2 := hb2.size)
            | (go_at_call 70; first
                | (with_reducible refine (srChord_any k q w2).mono ?_; rw [HX.out, HY.out]; rintro e w3 ⟨rfl, hb3⟩; (have hB4 : Below wr.heap.size wr w3 := hB2.trans (hb3.mono (by omega))); have hz3 := hb3.size)
                | (with_reducible refine (srChord_any k q _).mono ?_; rw [HX.out, HY.out]; rintro e w1 ⟨rfl, hb1⟩; (have hB1 : Below wr.heap.size wr w1 := hb1); have hz1 := hb1.size)))
          go_roundw
          case rel => exact ⟨k + 1, by omega, by go_num, by rw [HS.out]; exact HP5.out, hB.trans ((hB4.trans (hb5.mono (by omega))).mono hz)⟩
          case measure => simp [intOf]; omega
    · obtain rfl : k = p := by omega
      go_wp2
      go_ret2
      exact ⟨_, rfl, HI.out, hB⟩

set_option maxHeartbeats 400000 in
theorem sFanOf_no (p q : Int) (w : World) (h : ¬ ((3 ≤ p ∧ p ≤ 43) ∧ 0 ≤ q ∧ q < p)) :
    Calls Try.prog 32 #[.int .i64 p, .int .i64 q] w (Gives (PairsIn 59) w [] false) := by
  by_cases hp : 3 ≤ p ∧ p ≤ 60
  · have hw1 : IntKind.i64.wrap (p - 1) = p - 1 := by rw [IntKind.wrap_i64]; omega
    have hw2 : IntKind.i64.wrap (p - 3) = p - 3 := by rw [IntKind.wrap_i64]; omega
    by_cases hq : 0 ≤ q ∧ q ≤ p - 1
    · have hgt : decide (40 < p - 3) = true := decide_eq_true (by omega)
      clear h
      go_enter Try.func32, Try.ntmps32
      go_wp2_with (first | (go_at_call 68; (with_reducible refine (srPoints_yes _ _ hp).mono ?_); rintro e w1 ⟨rfl, rfl⟩) | (go_at_call 56; (with_reducible refine (l1In_yes _ _ _ _ hq).mono ?_); rintro e w1 ⟨rfl, rfl⟩))
      go_ret2
      exact ⟨_, rfl, PairsIn.nil _ _ _ _, Below.refl _ _⟩
    · clear h
      go_enter Try.func32, Try.ntmps32
      go_wp2_with (first | (go_at_call 68; (with_reducible refine (srPoints_yes _ _ hp).mono ?_); rintro e w1 ⟨rfl, rfl⟩) | (go_at_call 56; (with_reducible refine (l1In_no _ _ _ _ hq).mono ?_); rintro e w1 ⟨rfl, rfl⟩))
      go_ret2
      exact ⟨_, rfl, PairsIn.nil _ _ _ _, Below.refl _ _⟩
  · clear h
    go_enter Try.func32, Try.ntmps32
    go_wp2_with (first | (go_at_call 68; (with_reducible refine (srPoints_no _ _ hp).mono ?_); rintro e w1 ⟨rfl, rfl⟩))
    go_ret2
    exact ⟨_, rfl, PairsIn.nil _ _ _ _, Below.refl _ _⟩

set_option maxHeartbeats 400000 in
theorem core_FanOf (p q : Int) (x : List (Int × Int))  (b : Bool) (w : World) (hx : x.length ≤ 1000000)
    (hs : ∀ W, Calls Try.prog 32 #[.int .i64 p, .int .i64 q] W (Gives (PairsIn 59) W x b)) (hi : ∀ W, Calls Try.prog 33 #[.int .i64 p, .int .i64 q] W (Gives (PairsIn 59) W x b)) :
    Calls Try.prog 10 #[.int .i64 p, .int .i64 q] w fun e w' => e = .returned (.bool true) ∧ Below w.heap.size w w' := by
  have HS := Lib.hid hs
  have HI := Lib.hid hi
  clear hs hi
  go_enter Try.func10, Try.ntmps10
  go_wp2_with fail
  refine (HS.out _).mono ?_
  rintro e w1 ⟨vw, rfl, kw_1, hb1⟩
  have n1 : w.heap.size ≤ w1.heap.size := by have := hb1.size; (try simp at this); omega
  have B1 : Below w.heap.size w w1 := Below.trans (by go_grown) (hb1.mono (by first | (simp; done) | (simp; omega)))
  go_wp2_with fail
  refine (HI.out _).mono ?_
  rintro e w2 ⟨vg, rfl, kg_2, hb2⟩
  have n2 := hb2.size
  have B2 := B1.trans (hb2.mono (by omega))
  have kw_2 := kw_1.keep (belowSame hb2 (by omega))
  go_wp2_with fail
  refine (eqChordS_in _ _ _ _ _ _ _ _ _ kg_2 kw_2).mono ?_
  rintro e w3 ⟨rfl, hb3⟩
  have n3 := hb3.size
  have B3 := B2.trans (hb3.mono (by omega))
  have kw_3 := kw_2.keep (belowSame hb3 (by omega))
  have kg_3 := kg_2.keep (belowSame hb3 (by omega))
  go_wp2_with fail
  refine (markChordS_in _ _ 1 _ _ _ _ kg_3 (by omega) (by omega) (by omega)).mono ?_
  rintro e w4 ⟨rfl, mg_4, o4⟩
  have n4 := o4.size
  have B4 := B3.trans (o4.below (C := w.heap.size) (by omega) (by omega))
  have kw_4 := kw_3.keep (o4.same_in (by omega) (by omega))
  have kg_4 := mg_4
  go_wp2_with fail
  refine (heldChordS_in _ 1 _ _ _ _ _ kg_4 (by omega) (by omega) (by omega)).mono ?_
  rintro e w5 ⟨rfl, hb5⟩
  have n5 := hb5.size
  have B5 := B4.trans (hb5.mono (by omega))
  have kw_5 := kw_4.keep (belowSame hb5 (by omega))
  have kg_5 := kg_4.keep (belowSame hb5 (by omega))
  go_wp2_with fail
  refine (HI.out _).mono ?_
  rintro e w6 ⟨vh, rfl, kh_6, hb6⟩
  have n6 := hb6.size
  have B6 := B5.trans (hb6.mono (by omega))
  have kw_6 := kw_5.keep (belowSame hb6 (by omega))
  have kg_6 := kg_5.keep (belowSame hb6 (by omega))
  go_wp2_with fail
  refine (eqChordS_in _ _ _ _ _ _ _ _ _ kh_6 kw_6).mono ?_
  rintro e w7 ⟨rfl, hb7⟩
  have n7 := hb7.size
  have B7 := B6.trans (hb7.mono (by omega))
  have kw_7 := kw_6.keep (belowSame hb7 (by omega))
  have kg_7 := kg_6.keep (belowSame hb7 (by omega))
  have kh_7 := kh_6.keep (belowSame hb7 (by omega))
  go_wp2_with fail
  refine (heldChordS_in _ 1 _ _ _ _ _ kg_7 (by omega) (by omega) (by omega)).mono ?_
  rintro e w8 ⟨rfl, hb8⟩
  have n8 := hb8.size
  have B8 := B7.trans (hb8.mono (by omega))
  have kw_8 := kw_7.keep (belowSame hb8 (by omega))
  have kg_8 := kg_7.keep (belowSame hb8 (by omega))
  have kh_8 := kh_7.keep (belowSame hb8 (by omega))
  go_wp2_with fail
  go_ret
  exact ⟨rfl, B8⟩

theorem walk_FanOf (p q : Int) (w : World) (_ : (Lit.int .i64 p).wf = true) (_ : (Lit.int .i64 q).wf = true) :
    Calls Try.prog 10 #[.int .i64 p, .int .i64 q] w fun e w' => e = .returned (.bool true) ∧ Below w.heap.size w w' := by
  by_cases h : (3 ≤ p ∧ p ≤ 43) ∧ 0 ≤ q ∧ q < p
  · obtain ⟨n, rfl⟩ := Int.eq_ofNat_of_zero_le (show 0 ≤ p by omega)
    obtain ⟨k, rfl⟩ := Int.eq_ofNat_of_zero_le (show 0 ≤ q by omega)
    exact core_FanOf _ _ (fanL n k n) true w (by have := fanL_le n k n; omega) (fun W => sFanOf_yes n k W (by omega) (by omega)) (fun W => iFanOf_yes n k W (by omega) (by omega) (by omega))
  · refine core_FanOf _ _ [] false w (by simp) (fun W => sFanOf_no p q W h) (fun W => ?_)
    by_cases h2 : (3 ≤ p ∧ p ≤ 60) ∧ 0 ≤ q ∧ q < p
    · obtain ⟨n, rfl⟩ := Int.eq_ofNat_of_zero_le (show 0 ≤ p by omega)
      obtain ⟨k, rfl⟩ := Int.eq_ofNat_of_zero_le (show 0 ≤ q by omega)
      exact iFanOf_many n k W (by omega) (by omega) (by omega)
    · exact iFanOf_bad p q W h2
end Go.Proofs.Ytmfbbbnenngehaa
