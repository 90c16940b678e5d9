/- The model's chords of a star: one chord after the other is put in. -/
import Derived.Test.YtnldnjgnpdicnaaC1
import Derived.Test.YtnldnjgnpdicnaaV9
import Derived.Test.YtnldnjgnpdicnaaBA
import Derived.Test.YtnldnjgnpdicnaaK1
namespace Go.Proofs.Ytnldnjgnpdicnaa
open Go.RowKit

set_option maxHeartbeats 400000 in
theorem l1Least_i (a b : Int) (w : World) :
    Calls Try.prog 126 #[.int .i64 a, .int .i64 b] w fun e w' => e = .returned (.int .i64 (min a b)) ∧ w = w' := by
  by_cases h : a < b
  · go_enter Try.func126, Try.ntmps126
    go_wp2
    go_ret
    exact ⟨by rw [Int.min_eq_left (by omega)]; rfl, rfl⟩
  · go_enter Try.func126, Try.ntmps126
    go_wp2
    go_ret
    exact ⟨by rw [Int.min_eq_right (by omega)]; rfl, rfl⟩

set_option maxHeartbeats 400000 in
theorem l1Most_i (a b : Int) (w : World) :
    Calls Try.prog 127 #[.int .i64 a, .int .i64 b] w fun e w' => e = .returned (.int .i64 (max a b)) ∧ w = w' := by
  by_cases h : b < a
  · go_enter Try.func127, Try.ntmps127
    go_wp2
    go_ret
    exact ⟨by rw [Int.max_eq_left (by omega)]; rfl, rfl⟩
  · go_enter Try.func127, Try.ntmps127
    go_wp2
    go_ret
    exact ⟨by rw [Int.max_eq_right (by omega)]; rfl, rfl⟩

set_option maxHeartbeats 400000 in
theorem srChord_any (a b : Int) (w : World) :
    Calls Try.prog 93 #[.int .i64 a, .int .i64 b] w fun e w' => e = .returned (.agg #[.int .i64 (min a b), .int .i64 (max a b)]) ∧ Below w.heap.size w w' := by
  go_enter Try.func93, Try.ntmps93
  go_wp2_with (first | (go_at_call 126; (with_reducible refine (l1Least_i _ _ _).mono ?_); rintro e w1 ⟨rfl, rfl⟩) | (go_at_call 127; (with_reducible refine (l1Most_i _ _ _).mono ?_); rintro e w1 ⟨rfl, rfl⟩))
  go_returns
  exact ⟨rfl, by go_grown⟩

set_option maxHeartbeats 400000 in
theorem srLess_lt (a b c d : Int) (w : World) (_ : a < c) :
    Calls Try.prog 97 #[.agg #[.int .i64 a, .int .i64 b], .agg #[.int .i64 c, .int .i64 d]] w fun e w' => e = .returned (.bool true) ∧ Below w.heap.size w w' := by
  go_enter Try.func97, Try.ntmps97
  go_wp2
  go_ret
  exact ⟨rfl, by go_grown⟩

set_option maxHeartbeats 400000 in
theorem srLess_gt (a b c d : Int) (w : World) (_ : c < a) (_ : (a == c) = false) (_ : decide (a < c) = false) :
    Calls Try.prog 97 #[.agg #[.int .i64 a, .int .i64 b], .agg #[.int .i64 c, .int .i64 d]] w fun e w' => e = .returned (.bool false) ∧ Below w.heap.size w w' := by
  go_enter Try.func97, Try.ntmps97
  go_wp2
  go_ret
  exact ⟨rfl, by go_grown⟩

set_option maxHeartbeats 400000 in
theorem srLess_eq (a b c d : Int) (w : World) (_ : ¬ a < c) (_ : (a == c) = true) :
    Calls Try.prog 97 #[.agg #[.int .i64 a, .int .i64 b], .agg #[.int .i64 c, .int .i64 d]] w fun e w' => e = .returned (.bool (decide (b < d))) ∧ Below w.heap.size w w' := by
  go_enter Try.func97, Try.ntmps97
  go_wp2
  go_ret
  exact ⟨rfl, by go_grown⟩

theorem srLess_any (a b c d : Int) (w : World) :
    Calls Try.prog 97 #[.agg #[.int .i64 a, .int .i64 b], .agg #[.int .i64 c, .int .i64 d]] w fun e w' => e = .returned (.bool (lessC (a, b) (c, d))) ∧ Below w.heap.size w w' := by
  by_cases h1 : a < c
  · have e : lessC (a, b) (c, d) = true := by simp [lessC]; omega
    rw [e]; exact srLess_lt a b c d w h1
  · by_cases h2 : c < a
    · have e : lessC (a, b) (c, d) = false := by simp [lessC]; omega
      rw [e]; exact srLess_gt a b c d w h2 (beq_eq_false_iff_ne.2 (by omega)) (by simp; omega)
    · have e : lessC (a, b) (c, d) = decide (b < d) := by unfold lessC; rw [decide_eq_decide]; simp; omega
      rw [e]; exact srLess_eq a b c d w h1 (beq_iff_eq.2 (by omega))

/-! A chord is put into the list: it belongs before the end, and is there. -/
set_option maxHeartbeats 400000 in
theorem srPut_there (v : Value) (xs : List (Int × Int)) (c d : Int) (B T : Nat) (w : World) (h : PairsIn 52 w B T v xs) (hT : T ≤ w.heap.size) (hn : xs.length ≤ 1000000)
    (hk : headC (c, d) xs < xs.length) (he : xs.getD (headC (c, d) xs) (0, 0) = (c, d)) :
    Calls Try.prog 53 #[v, .agg #[.int .i64 c, .int .i64 d]] w fun e w' => e = .returned v ∧ Below w.heap.size w w' := by
  obtain ⟨a1, c1, g1, rfl, ha1, _, hx1, hy1⟩ := h.pairs.view
  obtain rfl := ha1 (by omega)
  have hg : g1 < T := h.2 g1 rfl
  clear h ha1
  have hb0 : Below w.heap.size w (w.alloc (.cells #[.int .i64 c, .int .i64 d] 52)) := (Below.refl _ _).alloc (Nat.le_refl _) _
  have hx : ∀ i, i < xs.length → (w.alloc (.cells #[.int .i64 c, .int .i64 d] 52)).cell? ⟨g1, i * 2, none⟩ = some (.int .i64 (xs.getD i (0, 0)).1) := fun i hi => cellB hb0 (hx1 i hi)
  have hy : ∀ i, i < xs.length → (w.alloc (.cells #[.int .i64 c, .int .i64 d] 52)).cell? ⟨g1, i * 2 + 1, none⟩ = some (.int .i64 (xs.getD i (0, 0)).2) := fun i hi => cellB hb0 (hy1 i hi)
  have X := Lib.hid hx
  have Y := Lib.hid hy
  have HE := Lib.hid he
  have HL := Lib.hid (headC_less (c, d) xs)
  have HS := Lib.hid (headC_stop (c, d) xs hk)
  obtain ⟨m, hm⟩ : ∃ m, m = headC (c, d) xs := ⟨_, rfl⟩
  rw [← hm] at HE HL HS hk
  clear hx1 hy1 hx hy he hm hb0
  have p0 : (w.alloc (.cells #[.int .i64 c, .int .i64 d] 52)).cell? ⟨w.heap.size, 0, none⟩ = some (.int .i64 c) := by go_simp
  have q0 : (w.alloc (.cells #[.int .i64 c, .int .i64 d] 52)).cell? ⟨w.heap.size, 1, none⟩ = some (.int .i64 d) := by go_simp
  have P0 := Lib.hid p0
  have Q0 := Lib.hid q0
  clear p0 q0
  go_enter Try.func53, Try.ntmps53
  go_wp2
  go_loopw [5] (fun i wr => ∃ k : Nat, k ≤ m ∧ i = .int .i64 k ∧ Below (w.heap.size + 1) (w.alloc (.cells #[.int .i64 c, .int .i64 d] 52)) wr) (fun i _ => m - (intOf i).toNat)
  case atStart => exact ⟨0, by omega, rfl, Below.refl _ _⟩
  case round =>
    obtain ⟨k, hkm, rfl, hB⟩ := hrel
    have hz := hB.size
    simp only [World.size_alloc] at hz
    have hi1 : 0 ≤ (k : Int) := by omega
    have hi2 : (k : Int) < (xs.length : Int) := by omega
    have cx : wr.cell? ⟨g1, k * 2, none⟩ = some (.int .i64 (xs.getD k (0, 0)).1) := (hB.cell (p := ⟨g1, k * 2, none⟩) (by show g1 < _; omega)).trans (X.out k (by omega))
    have cy : wr.cell? ⟨g1, k * 2 + 1, none⟩ = some (.int .i64 (xs.getD k (0, 0)).2) := (hB.cell (p := ⟨g1, k * 2 + 1, none⟩) (by show g1 < _; omega)).trans (Y.out k (by omega))
    have p1 : wr.cell? ⟨w.heap.size, 0, none⟩ = some (.int .i64 c) := (hB.cell (p := ⟨w.heap.size, 0, none⟩) (by show w.heap.size < _; omega)).trans P0.out
    have q1 : wr.cell? ⟨w.heap.size, 1, none⟩ = some (.int .i64 d) := (hB.cell (p := ⟨w.heap.size, 1, none⟩) (by show w.heap.size < _; omega)).trans Q0.out
    by_cases hkk : k = m
    · subst hkk
      have hS : lessC (xs.getD k (0, 0)) (c, d) = false := HS.out
      have hE := HE.out
      rw [hE] at cx cy hS
      simp only at cx cy
      have HSS := Lib.hid hS
      clear hS hE
      go_wp2
      go_region_held3 (fun w' => w'.cell? ⟨g1, k * 2, none⟩ = some (.int .i64 c) ∧ w'.cell? ⟨g1, k * 2 + 1, none⟩ = some (.int .i64 d) ∧ w'.cell? ⟨w.heap.size, 0, none⟩ = some (.int .i64 c) ∧ w'.cell? ⟨w.heap.size, 1, none⟩ = some (.int .i64 d)) (go_keep)
        (first | (go_at_call 97; refine (srLess_any _ _ _ _ _).mono ?_; rintro e w1 ⟨rfl, hb⟩; rw [HSS.out]; have d1 := cellB hb cx; have d2 := cellB hb cy; have d3 := cellB hb p1; have d4 := cellB hb q1; (have hB2 : Below (w.heap.size + 1) (w.alloc (.cells #[.int .i64 c, .int .i64 d] 52)) w1 := by (refine Below.trans ?_ (hb.mono (by first | exact hz | (simp; omega))); go_grown))))
      go_wp2
      go_quiet (fail)
      go_wp2
      go_ret
      exact ⟨rfl, bdn (Below.trans (by go_grown) (hB2.mono (by omega))) _⟩
    · have hLs : lessC (xs.getD k (0, 0)) (c, d) = true := HL.out k (by omega)
      obtain ⟨x, hx⟩ : ∃ x, x = (xs.getD k (0, 0)).1 := ⟨_, rfl⟩
      obtain ⟨y, hy⟩ : ∃ y, y = (xs.getD k (0, 0)).2 := ⟨_, rfl⟩
      rw [show xs.getD k (0, 0) = (x, y) by rw [hx, hy]] at hLs
      rw [← hx] at cx
      rw [← hy] at cy
      have HLS := Lib.hid hLs
      clear hLs hx hy
      go_wp2
      go_region_held3 (fun w' => w'.cell? ⟨g1, k * 2, none⟩ = some (.int .i64 x) ∧ w'.cell? ⟨g1, k * 2 + 1, none⟩ = some (.int .i64 y) ∧ w'.cell? ⟨w.heap.size, 0, none⟩ = some (.int .i64 c) ∧ w'.cell? ⟨w.heap.size, 1, none⟩ = some (.int .i64 d)) (go_keep)
        (first | (go_at_call 97; refine (srLess_any _ _ _ _ _).mono ?_; rintro e w1 ⟨rfl, hb⟩; rw [HLS.out]; have d1 := cellB hb cx; have d2 := cellB hb cy; have d3 := cellB hb p1; have d4 := cellB hb q1; (have hB2 : Below (w.heap.size + 1) (w.alloc (.cells #[.int .i64 c, .int .i64 d] 52)) w1 := by (refine Below.trans ?_ (hb.mono (by first | exact hz | (simp; omega))); go_grown))))
      go_wp2
      go_roundw
      case rel => exact ⟨k + 1, by omega, by go_num, hB2⟩
      case measure => simp [intOf]; omega

end Go.Proofs.Ytnldnjgnpdicnaa
