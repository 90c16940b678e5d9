/- The strings of a star, as lists. -/
import Derived.Test.YtjpillccpnjdiaaW2
import Derived.Test.YtjpillccpnjdiaaV1
import Derived.Test.YtjpillccpnjdiaaM1
import Derived.Test.YtjpillccpnjdiaaB2
import Derived.Deep.RegionHeld3
namespace Go.Proofs.Ytjpillccpnjdiaa
open Go.RowKit

theorem info_int : (Try.prog.info? 3).map (fun i => (i.zero, i.size, i.bytes)) = some (some (.int .i64 0), 1, 8) := by kernel_rfl

/-- A call returns the integers xs in a slice of its own. -/
def GivesInts (w : World) (xs : List Int) (e : Ending) (w' : World) : Prop := ∃ v, e = .returned v ∧ Ints w' w.heap.size 3 v xs ∧ Below w.heap.size w w'

set_option maxHeartbeats 400000 in
theorem stringFrom_any (p s k : Nat) (w : World) (h : 3 ≤ p ∧ p ≤ 60 ∧ 1 ≤ s ∧ s < p) (hk : k < p) :
    Calls Try.prog 55 #[.agg #[.int .i64 p, .int .i64 s], .int .i64 k] w (GivesInts w (strL p s k (p / Nat.gcd p s))) := by
  have hg1 : 1 ≤ Nat.gcd p s := Nat.gcd_pos_of_pos_left s (by omega)
  have hg3 : (1 : Int) ≤ ((Nat.gcd p s : Nat) : Int) := by omega
  obtain ⟨n, hn⟩ : ∃ n, n = p / Nat.gcd p s := ⟨_, rfl⟩
  have hq : (p : Int) / ((Nat.gcd p s : Nat) : Int) = (n : Int) := by rw [hn]; simp
  have hn2 : n ≤ 60 := by rw [hn]; exact Nat.le_trans (Nat.div_le_self _ _) h.2.1
  rw [← hn]
  have hmk := make_ints (P := Try.prog) Try.underlying34 info_int n (by omega)
  clear hn
  have hb0 : (((Nat.gcd p s : Nat) : Int) == 0) = false := beq_eq_false_iff_ne.2 (by omega)
  have hw : IntKind.i64.wrap (n : Int) = (n : Int) := IntWalk.i64_in _ (by omega)
  have hq' : Int.tdiv (p : Int) ((Nat.gcd p s : Nat) : Int) = (n : Int) := by rw [Int.tdiv_eq_ediv_of_nonneg (by omega)]; exact hq
  have hp0 : ¬ p = 0 := by omega
  obtain ⟨h1, h2, h3, h4⟩ := h
  go_enter Try.func55, Try.ntmps55
  go_wp2
  go_region_held3 (fun w' => w'.cell? ⟨w.heap.size, 0, none⟩ = some (.int .i64 p) ∧ w'.cell? ⟨w.heap.size, 1, none⟩ = some (.int .i64 s)) (go_keep)
    (first | (go_at_call 52; refine (commonDivisor_q p s _ (by omega) (by omega)).mono ?_; rintro e w1 ⟨rfl, q, rfl⟩))
  clear hmk hq hg1 hg3 hb0 hw hq'
  go_wp2
  have hI0 := Ints.made ((w.alloc (.cells #[.int .i64 p, .int .i64 s] 25)).drewN (1 + q)) w.heap.size 3 n (by simp) (by omega)
  have hB0 : Below w.heap.size w (((w.alloc (.cells #[.int .i64 p, .int .i64 s] 25)).drewN (1 + q)).alloc (.cells (zeroInts n) 3)) := (bdn ((Below.refl _ _).alloc (Nat.le_refl _) _) _).alloc (by simp) _
  simp only [World.heap_drewN, World.size_alloc] at hI0
  have HI0 := Lib.hid hI0
  have HB0 := Lib.hid hB0
  have HL := Lib.hid (fillTo_zero (atI p s k) n)
  clear hI0 hB0
  go_loopw [18] (fun i wr => ∃ j : Nat, j ≤ n ∧ i = .int .i64 j ∧ Ints wr w.heap.size 3 (.slice (some ⟨w.heap.size + 1, 0, none⟩) n n) (fillTo (atI p s k) n j) ∧ Below w.heap.size w wr ∧ wr.cell? ⟨w.heap.size, 0, none⟩ = some (.int .i64 p) ∧ wr.cell? ⟨w.heap.size, 1, none⟩ = some (.int .i64 s)) (fun i _ => n - (intOf i).toNat)
  case atStart => exact ⟨0, by omega, rfl, by rw [HL.out]; exact HI0.out, HB0.out, by go_simp, by go_simp⟩
  case round =>
    obtain ⟨j, hj, rfl, hI, hB, hp, hs⟩ := hrel
    by_cases hlt : j < n
    · have hst := hI.stored j (atI p s k j)
      rw [fillTo_set (atI p s k) n j hlt] at hst
      have cc := hI.cellAt j (by rw [fillTo_length _ n j hj]; exact hlt)
      have ff := hI.frozenAt j
      have HS := Lib.hid hst
      clear hst hI
      have m1 : 0 ≤ (j : Int) * (s : Int) := Int.mul_nonneg (by omega) (by omega)
      have m2 : (j : Int) * (s : Int) ≤ 60 * 60 := Int.mul_le_mul (by omega) (by omega) (by omega) (by omega)
      go_wp2
      go_roundw
      case rel => exact ⟨j + 1, by omega, by go_num, HS.out.1, hB.setCell (by simp) _, by go_simp, by go_simp⟩
      case measure => simp [intOf]; omega
    · obtain rfl : j = n := by omega
      rw [fillTo_all] at hI
      go_wp2
      go_ret
      exact ⟨_, rfl, hI, hB⟩

set_option maxHeartbeats 400000 in
theorem srString_any (p s k : Nat) (w : World) (h : 3 ≤ p ∧ p ≤ 60 ∧ 1 ≤ s ∧ s < p) (hk : k < p) :
    Calls Try.prog 54 #[.agg #[.int .i64 p, .int .i64 s], .int .i64 k] w (GivesInts w (strL p s k (p / Nat.gcd p s))) := by
  have hg1 : 1 ≤ Nat.gcd p s := Nat.gcd_pos_of_pos_left s (by omega)
  obtain ⟨n, hn⟩ : ∃ n, n = p / Nat.gcd p s := ⟨_, rfl⟩
  have hn2 : n ≤ 60 := by rw [hn]; exact Nat.le_trans (Nat.div_le_self _ _) h.2.1
  have hn1 : 1 ≤ n := by rw [hn]; exact Nat.div_pos (Nat.gcd_le_left s (by omega)) hg1
  have hback : ∀ i, 1 ≤ i → i < n → atI p s k i ≠ (k : Int) := fun i a b => atI_back p s k i hk a (by rw [← hn]; exact b)
  have hall : atI p s k n = (k : Int) := by rw [hn]; exact atI_all p s k hk
  have hone : atI p s k 1 = ((k : Int) + (s : Int)) % (p : Int) := by simp [atI]
  rw [← hn]
  clear hn hg1
  have HBK := Lib.hid hback
  have HAL := Lib.hid hall
  have HON := Lib.hid hone
  clear hback hall hone
  obtain ⟨h1, h2, h3, h4⟩ := h
  have hbd : ∀ i, 0 ≤ atI p s k i ∧ atI p s k i < (p : Int) := fun i => atI_bd p s k i (by omega)
  have HBD := Lib.hid hbd
  clear hbd
  go_enter Try.func54, Try.ntmps54
  go_wp2
  have hI0 : Ints ((w.alloc (.cells #[.int .i64 p, .int .i64 s] 25)).alloc (.cells #[.int .i64 k] 3)) (w.heap.size + 1) 3 (.slice (some ⟨w.heap.size + 1, 0, none⟩) 1 1) (strL p s k 1) := by
    rw [strL_one p s k hk]
    have := Ints.boxed (w.alloc (.cells #[.int .i64 p, .int .i64 s] 25)) (w.heap.size + 1) 3 [(k : Int)] (by simp) (by simp)
    simpa using this
  have HI0 := Lib.hid hI0
  clear hI0
  go_loopw [5, 6] (fun u v wr => ∃ i : Nat, 1 ≤ i ∧ i ≤ n ∧ v = .int .i64 (atI p s k i) ∧ Ints wr (w.heap.size + 1) 3 u (strL p s k i) ∧ Below w.heap.size w wr ∧ w.heap.size < wr.heap.size ∧ wr.cell? ⟨w.heap.size, 0, none⟩ = some (.int .i64 p) ∧ wr.cell? ⟨w.heap.size, 1, none⟩ = some (.int .i64 s)) (fun u _ _ => match u with | .slice _ l _ => n - l | _ => 0)
  case atStart => exact ⟨1, by omega, hn1, by rw [HON.out], HI0.out, by go_grown, by simp; omega, by go_simp, by go_simp⟩
  case round =>
    obtain ⟨i, hi1, hi2, rfl, hI, hB, hz, hp, hs⟩ := hrel
    have hlen : (strL p s k i).length = i := strL_length p s k i
    obtain ⟨t, ht⟩ : ∃ t, t = atI p s k i := ⟨_, rfl⟩
    have hsn : strL p s k i ++ [t] = strL p s k (i + 1) := by rw [ht]; exact strL_succ p s k i
    have hnx : (t + (s : Int)) % (p : Int) = atI p s k (i + 1) := by rw [ht]; exact atI_succ p s k i
    have hb0 := HBD.out i
    rw [← ht] at hb0 ⊢
    have HSN := Lib.hid hsn
    have HNX := Lib.hid hnx
    have HLN := Lib.hid hlen
    have HI := Lib.hid hI
    obtain ⟨b0, b1⟩ := hb0
    clear hsn hnx hlen hI
    by_cases hlt : i < n
    · have hne : (t != (k : Int)) = true := bne_iff_ne.2 (by rw [ht]; exact HBK.out i hi1 hlt)
      clear ht
      go_wp2_with (at_builtin; refine wpList_append_int rfl _ _ 34 rfl (w.heap.size + 1) 3 Try.underlying34 info_int _ _ rfl HI.out t rfl (by rw [HLN.out]; omega) (by omega) ?_; intro v' w' hI' hg'; have hp' := HI.out.cellKept hg' (by omega) hp; have hs' := HI.out.cellKept hg' (by omega) hs; have hB' := (HI.out.mono (Nat.le_succ w.heap.size)).below hB (by omega) hg'; (have hz' : w.heap.size < w'.heap.size := by (have := hg'.size; omega)); clear hp hs hB hz; rw [HSN.out] at hI'; have HI' := Lib.hid hI'; clear hI')
      go_roundw
      case rel => exact ⟨i + 1, by omega, by omega, by rw [← HNX.out], HI'.out, hB', hz', hp', hs'⟩
      case measure =>
        obtain ⟨_, _, _, rfl, _⟩ := HI'.out.view
        obtain ⟨_, _, _, rfl, _⟩ := HI.out.view
        simp [strL_length]
        omega
    · obtain rfl : i = n := by omega
      have hne : (t != (k : Int)) = false := by rw [ht, HAL.out]; simp
      clear ht
      go_wp2
      go_ret
      exact ⟨_, rfl, HI.out.mono (Nat.le_succ _), hB⟩

end Go.Proofs.Ytjpillccpnjdiaa
