/- Regions: pieces of a chord, arcs that chords part; the program and the model. -/
import Derived.Test.YtmfbbbnenngehaaA4
import Derived.Test.YtmfbbbnenngehaaW1
namespace Go.Proofs.Ytmfbbbnenngehaa
open Go.RowKit
set_option linter.unusedVariables false

theorem countP_take_step {α : Type} (f : α → Bool) (xs : List α) (z : α) (k : Nat) (h : k < xs.length) : (xs.take (k + 1)).countP f = (xs.take k).countP f + if f (xs.getD k z) then 1 else 0 := by
  rw [List.take_succ_eq_append_getElem h, List.countP_append, List.getD_eq_getElem?_getD, List.getElem?_eq_getElem h]
  simp [List.countP_cons]

set_option maxHeartbeats 1000000 in
theorem rePieces_any (u : Value) (xs : List (Int × Int)) (q : Nat) (B T : Nat) (w : World) (h : PairsIn 59 w B T u xs) (ho : ∀ k, k < xs.length → (xs.getD k (0, 0)).1 < (xs.getD k (0, 0)).2) (hq : q < xs.length) (hn : xs.length ≤ 1000000) :
    Calls Try.prog 58 #[u, .int .i64 q] w fun e w' => e = .returned (.int .i64 (1 + (cntC (xs.getD q (0, 0)) xs : Nat))) ∧ Below w.heap.size w w' := by
  obtain ⟨a1, c1, g1, rfl, ha1, hmm, hx1, hy1⟩ := h.pairs.view
  obtain rfl := ha1 (by omega)
  obtain ⟨a, b, hab⟩ : ∃ a b, xs.getD q (0, 0) = (a, b) := ⟨_, _, rfl⟩
  have X := Lib.hid hx1
  have Y := Lib.hid hy1
  have HO := Lib.hid ho
  have hxq := hx1 q hq
  have hyq := hy1 q hq
  have hoq := ho q hq
  rw [hab] at hxq hyq hoq ⊢
  simp only at hxq hyq hoq
  have XQ := Lib.hid hxq
  have YQ := Lib.hid hyq
  clear h ha1 hx1 hy1 hmm ho hxq hyq hab
  have k0 : (q : Int) < (xs.length : Int) := by omega
  have k1 : 0 ≤ (q : Int) := by omega
  have k2 : (q : Int).toNat = q := by omega
  go_enter Try.func58, Try.ntmps58
  go_wp2
  go_loopw [5, 10] (fun c i wr => ∃ k : Nat, k ≤ xs.length ∧ i = .int .i64 k ∧ c = .int .i64 (1 + (cntC (a, b) (xs.take k) : Nat)) ∧ Below w.heap.size w wr) (fun _ i _ => xs.length - (intOf i).toNat)
  case atStart => exact ⟨0, by omega, rfl, by simp [cntC], by go_grown⟩
  case round =>
    obtain ⟨k, hk, rfl, rfl, hB⟩ := hrel
    have hle := cntC_le (a, b) (xs.take k)
    rw [List.length_take] at hle
    have hz := hB.size
    by_cases hlt : k < xs.length
    · obtain ⟨x, y, hxy⟩ : ∃ x y, xs.getD k (0, 0) = (x, y) := ⟨_, _, rfl⟩
      have cx : wr.cell? ⟨g1, k * 2, none⟩ = _ := (hB.cell (p := ⟨g1, k * 2, none⟩) (World.block_lt_of_cell? w _ (X.out k hlt))).trans (X.out k hlt)
      have cy : wr.cell? ⟨g1, k * 2 + 1, none⟩ = _ := (hB.cell (p := ⟨g1, k * 2 + 1, none⟩) (World.block_lt_of_cell? w _ (Y.out k hlt))).trans (Y.out k hlt)
      have hord := HO.out k hlt
      have aq : wr.cell? ⟨g1, q * 2, none⟩ = some (.int .i64 a) := (hB.cell (p := ⟨g1, q * 2, none⟩) (World.block_lt_of_cell? w _ XQ.out)).trans XQ.out
      have bq : wr.cell? ⟨g1, q * 2 + 1, none⟩ = some (.int .i64 b) := (hB.cell (p := ⟨g1, q * 2 + 1, none⟩) (World.block_lt_of_cell? w _ YQ.out)).trans YQ.out
      rw [hxy] at cx cy hord
      simp only at cx cy hord
      have hs := cntC_take (a, b) xs k hlt
      rw [hxy, show crossP (a, b) (x, y) = crossB a b x y from rfl] at hs
      obtain ⟨m, hm⟩ : ∃ m, m = cntC (a, b) (xs.take k) := ⟨_, rfl⟩
      rw [← hm] at hle hs ⊢
      have HORD := Lib.hid hord
      have HOQ := Lib.hid hoq
      obtain ⟨tt, htt⟩ : ∃ t, crossB a b x y = t := ⟨_, rfl⟩
      rw [htt] at hs
      have HS := Lib.hid hs
      have HTT := Lib.hid htt
      clear hm hxy hord hs htt
      have hw1 : IntKind.i64.wrap (1 + (m : Int) + 1) = 1 + (m : Int) + 1 := by rw [IntKind.wrap_i64]; omega
      cases tt
      all_goals
        go_wp2
        go_region_held3 (fun w' => w'.cell? ⟨g1, q * 2, none⟩ = some (.int .i64 a) ∧ w'.cell? ⟨g1, q * 2 + 1, none⟩ = some (.int .i64 b) ∧ w'.cell? ⟨wr.heap.size, 0, none⟩ = some (.int .i64 x) ∧ w'.cell? ⟨wr.heap.size, 1, none⟩ = some (.int .i64 y)) (go_keep)
          (first | (go_at_call 84; refine (srCross_any a b x y _ HOQ.out HORD.out).mono ?_; rw [HTT.out]; rintro e w2 ⟨rfl, hb⟩; (have d0 : w2.cell? ⟨g1, q * 2, none⟩ = some (.int .i64 a) := cellB hb (by go_simp)); (have d1 : w2.cell? ⟨g1, q * 2 + 1, none⟩ = some (.int .i64 b) := cellB hb (by go_simp)); (have d2 : w2.cell? ⟨wr.heap.size, 0, none⟩ = some (.int .i64 x) := cellB hb (by go_simp)); (have d3 : w2.cell? ⟨wr.heap.size, 1, none⟩ = some (.int .i64 y) := cellB hb (by go_simp)); (have hB1 : Below wr.heap.size wr w2 := Below.trans (by go_grown) (hb.mono (by first | omega | (simp; done) | (simp; omega)))); clear hb))
        go_wp2
        go_roundw
        case rel => exact ⟨k + 1, by omega, by go_num, by (rw [HS.out]; simp; try omega), hB.trans (hB1.mono hz)⟩
        case measure => simp [intOf]; omega
    · obtain rfl : k = xs.length := by omega
      rw [List.take_length]
      go_wp2
      go_ret
      exact ⟨rfl, hB⟩

/-- Is an arc on the side of a chord that leads from its lesser point on to the greater one? -/
def within (c : Int × Int) (i : Int) : Bool := decide (c.1 ≤ i ∧ i < c.2)
/-- How many chords part two arcs. -/
def partedL (i j : Int) (xs : List (Int × Int)) : Nat := xs.countP fun c => within c i != within c j
theorem partedL_le (i j : Int) (xs : List (Int × Int)) : partedL i j xs ≤ xs.length := List.countP_le_length
theorem partedL_take (i j : Int) (xs : List (Int × Int)) (k : Nat) (h : k < xs.length) : partedL i j (xs.take (k + 1)) = partedL i j (xs.take k) + if within (xs.getD k (0, 0)) i != within (xs.getD k (0, 0)) j then 1 else 0 :=
  countP_take_step _ xs (0, 0) k h

set_option maxHeartbeats 400000 in
theorem isArcWithin_any (a b i : Int) (w : World) :
    Calls Try.prog 89 #[.agg #[.int .i64 a, .int .i64 b], .int .i64 i] w fun e w' => e = .returned (.bool (within (a, b) i)) ∧ Below w.heap.size w w' := by
  by_cases h1 : a ≤ i
  · by_cases h2 : i < b
    · have e1 : within (a, b) i = true := by simp [within, h1, h2]
      rw [e1]
      go_enter Try.func89, Try.ntmps89
      go_wp2
      go_ret
      exact ⟨rfl, by go_grown⟩
    · have e1 : within (a, b) i = false := by simp [within, h2]
      rw [e1]
      go_enter Try.func89, Try.ntmps89
      go_wp2
      go_ret
      exact ⟨rfl, by go_grown⟩
  · have e1 : within (a, b) i = false := by simp [within, h1]
    rw [e1]
    go_enter Try.func89, Try.ntmps89
    go_wp2
    go_ret
    exact ⟨rfl, by go_grown⟩

theorem isArcWithin_lit (a b i : Int) (t : Bool) (w : World) (h : within (a, b) i = t) :
    Calls Try.prog 89 #[.agg #[.int .i64 a, .int .i64 b], .int .i64 i] w fun e w' => e = .returned (.bool t) ∧ Below w.heap.size w w' := by
  rw [← h]
  exact isArcWithin_any a b i w

theorem l1In_any (n lo hi : Int) (t : Bool) (w : World) (h : decide (lo ≤ n ∧ n ≤ hi) = t) :
    Calls Try.prog 56 #[.int .i64 n, .int .i64 lo, .int .i64 hi] w fun e w' => e = .returned (.bool t) ∧ w = w' := by
  cases t
  · exact l1In_no n lo hi w (of_decide_eq_false h)
  · exact l1In_yes n lo hi w (of_decide_eq_true h)

set_option maxHeartbeats 2000000 in
theorem reParted_any (u : Value) (xs : List (Int × Int)) (i j : Int) (B T : Nat) (w : World) (h : PairsIn 59 w B T u xs) (hbd : ∀ k, k < xs.length → 0 ≤ (xs.getD k (0, 0)).2 ∧ (xs.getD k (0, 0)).2 ≤ 60) (hn : xs.length ≤ 1000000) :
    Calls Try.prog 62 #[u, .int .i64 i, .int .i64 j] w fun e w' => e = .returned (.int .i64 (partedL i j xs : Nat)) ∧ Below w.heap.size w w' := by
  obtain ⟨a1, c1, g1, rfl, ha1, hmm, hx1, hy1⟩ := h.pairs.view
  have X := Lib.hid hx1
  have Y := Lib.hid hy1
  have HA := Lib.hid ha1
  have HBD := Lib.hid hbd
  clear h ha1 hx1 hy1 hmm hbd
  go_enter Try.func62, Try.ntmps62
  go_wp2
  go_loopw [7, 12] (fun c i' wr => ∃ k : Nat, k ≤ xs.length ∧ i' = .int .i64 k ∧ c = .int .i64 (partedL i j (xs.take k) : Nat) ∧ Below w.heap.size w wr) (fun _ i _ => xs.length - (intOf i).toNat)
  case atStart => exact ⟨0, by omega, rfl, by simp [partedL], by go_grown⟩
  case round =>
    obtain ⟨k, hk, rfl, rfl, hB⟩ := hrel
    have hle := partedL_le i j (xs.take k)
    rw [List.length_take] at hle
    have hz := hB.size
    by_cases hlt : k < xs.length
    · obtain rfl := HA.out (by omega)
      obtain ⟨x, y, hxy⟩ : ∃ x y, xs.getD k (0, 0) = (x, y) := ⟨_, _, rfl⟩
      have cx : wr.cell? ⟨g1, k * 2, none⟩ = _ := (hB.cell (p := ⟨g1, k * 2, none⟩) (World.block_lt_of_cell? w _ (X.out k hlt))).trans (X.out k hlt)
      have cy : wr.cell? ⟨g1, k * 2 + 1, none⟩ = _ := (hB.cell (p := ⟨g1, k * 2 + 1, none⟩) (World.block_lt_of_cell? w _ (Y.out k hlt))).trans (Y.out k hlt)
      have hbd := HBD.out k hlt
      have hs := partedL_take i j xs k hlt
      rw [hxy] at cx cy hbd hs
      simp only at cx cy hbd
      obtain ⟨m, hm⟩ : ∃ m, m = partedL i j (xs.take k) := ⟨_, rfl⟩
      rw [← hm] at hle hs ⊢
      obtain ⟨s, hs1⟩ : ∃ s, within (x, y) i = s := ⟨_, rfl⟩
      obtain ⟨t, ht1⟩ : ∃ s, within (x, y) j = s := ⟨_, rfl⟩
      rw [hs1, ht1] at hs
      have d1 : decide (x ≤ i ∧ i ≤ y - 1) = s := by rw [← hs1, within, decide_eq_decide]; simp only; omega
      have d2 : decide (x ≤ j ∧ j ≤ y - 1) = t := by rw [← ht1, within, decide_eq_decide]; simp only; omega
      have D1 := Lib.hid d1
      have D2 := Lib.hid d2
      have HS := Lib.hid hs
      have hw1 : IntKind.i64.wrap (y - 1) = y - 1 := by rw [IntKind.wrap_i64]; omega
      have hw2 : IntKind.i64.wrap ((m : Int) + 1) = (m : Int) + 1 := by rw [IntKind.wrap_i64]; omega
      clear hm hxy hs hs1 ht1 d1 d2 hbd
      cases s <;> cases t
      all_goals
        go_wp2
        go_quiet ((go_at_call 56; (first | (with_reducible exact quietP (l1In_any i x (y - 1) _ _ D1.out)) | (with_reducible exact quietP (l1In_any j x (y - 1) _ _ D2.out)))))
        go_wp2
        go_roundw
        case rel => exact ⟨k + 1, by omega, by go_num, by (rw [HS.out]; simp), bdn (Below.trans hB (by go_grown)) _⟩
        case measure => simp [intOf]; omega
    · obtain rfl : k = xs.length := by omega
      rw [List.take_length]
      go_wp2
      go_ret
      exact ⟨rfl, hB⟩

set_option maxHeartbeats 1000000 in
set_option maxRecDepth 100000 in
theorem countParting_any (p : Int) (a0 : Option Addr) (cap : Nat) (xs : List (Int × Int)) (B T : Nat) (w : World) (h : PairsIn 59 w B T (.slice a0 xs.length cap) xs) (hT : T ≤ w.heap.size) (i j : Int) (hn : xs.length ≤ 1000000) :
    Calls Try.prog 65 #[.agg #[.int .i64 p, .slice a0 xs.length cap], .int .i64 i, .int .i64 j] w fun e w' => e = .returned (.int .i64 (partedL i j xs : Nat)) ∧ Below w.heap.size w w' := by
  obtain ⟨a1, c1, g1, hv, ha1, hmm, hx1, hy1⟩ := h.pairs.view
  obtain ⟨rfl, _, rfl⟩ : a0 = a1 ∧ xs.length = xs.length ∧ cap = c1 := by simpa using hv
  have X := Lib.hid hx1
  have Y := Lib.hid hy1
  have HA := Lib.hid ha1
  clear h ha1 hx1 hy1 hmm hv
  go_enter Try.func65, Try.ntmps65
  go_wp2
  go_loopw [7, 13] (fun c i' wr => ∃ k : Nat, k ≤ xs.length ∧ i' = .int .i64 k ∧ c = .int .i64 (partedL i j (xs.take k) : Nat) ∧ Below w.heap.size w wr) (fun _ i _ => xs.length - (intOf i).toNat)
  case atStart => exact ⟨0, by omega, rfl, by simp [partedL], by go_grown⟩
  case round =>
    obtain ⟨k, hk, rfl, rfl, hB⟩ := hrel
    have hle := partedL_le i j (xs.take k)
    rw [List.length_take] at hle
    have hz := hB.size
    by_cases hlt : k < xs.length
    · obtain rfl := HA.out (by omega)
      obtain ⟨x, y, hxy⟩ : ∃ x y, xs.getD k (0, 0) = (x, y) := ⟨_, _, rfl⟩
      have cx : wr.cell? ⟨g1, k * 2, none⟩ = _ := (hB.cell (p := ⟨g1, k * 2, none⟩) (World.block_lt_of_cell? w _ (X.out k hlt))).trans (X.out k hlt)
      have cy : wr.cell? ⟨g1, k * 2 + 1, none⟩ = _ := (hB.cell (p := ⟨g1, k * 2 + 1, none⟩) (World.block_lt_of_cell? w _ (Y.out k hlt))).trans (Y.out k hlt)
      have hs := partedL_take i j xs k hlt
      rw [hxy] at cx cy hs
      simp only at cx cy
      obtain ⟨m, hm⟩ : ∃ m, m = partedL i j (xs.take k) := ⟨_, rfl⟩
      rw [← hm] at hle hs ⊢
      obtain ⟨s, hs1⟩ : ∃ s, within (x, y) i = s := ⟨_, rfl⟩
      obtain ⟨t, ht1⟩ : ∃ s, within (x, y) j = s := ⟨_, rfl⟩
      rw [hs1, ht1] at hs
      have D1 := Lib.hid hs1
      have D2 := Lib.hid ht1
      have HS := Lib.hid hs
      have hw2 : IntKind.i64.wrap ((m : Int) + 1) = (m : Int) + 1 := by rw [IntKind.wrap_i64]; omega
      clear hm hxy hs hs1 ht1
      cases s <;> cases t
      all_goals
        go_wp2
        go_region_held3 (fun w' => w'.cell? ⟨wr.heap.size, 0, none⟩ = some (.int .i64 x) ∧ w'.cell? ⟨wr.heap.size, 1, none⟩ = some (.int .i64 y)) (go_keep)
          (first | (go_at_call 89; (first | with_reducible refine (isArcWithin_lit x y i _ _ D1.out).mono ?_ | with_reducible refine (isArcWithin_lit x y j _ _ D2.out).mono ?_); rintro e w2 ⟨rfl, hb⟩; (have d2 : w2.cell? ⟨wr.heap.size, 0, none⟩ = some (.int .i64 x) := cellB hb (by first | assumption | go_simp)); (have d3 : w2.cell? ⟨wr.heap.size, 1, none⟩ = some (.int .i64 y) := cellB hb (by first | assumption | go_simp)); (have hB1 : Below wr.heap.size wr w2 := Below.trans (by first | with_reducible assumption | go_grown) (hb.mono (by first | omega | with_reducible exact hB1.size | (simp; done) | (simp; omega)))); clear hb))
        go_wp2
        go_roundw
        case rel => exact ⟨k + 1, by omega, by go_num, by (rw [HS.out]; simp), hB.trans (hB1.mono hz)⟩
        case measure => simp [intOf]; omega
    · obtain rfl : k = xs.length := by omega
      rw [List.take_length]
      go_wp2
      go_ret
      exact ⟨rfl, hB⟩
end Go.Proofs.Ytmfbbbnenngehaa
