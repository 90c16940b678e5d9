/- MakePuzzle: both sides, the law. -/
import Derived.Test.YtpliaenpencocabXA
import Derived.Test.YtpliaenpencocabXZ
namespace Go.Proofs.Ytpliaenpencocab
open Go.RowKit
set_option linter.unusedVariables false

/-- The next number, the numbers behind a seed. -/
def nextZ (z : Nat) : Nat := (z * 199 + 2347) % 10007
def zAt (seed : Nat) : Nat → Nat
  | 0 => seed
  | k + 1 => nextZ (zAt seed k)
theorem zAt_le (seed k : Nat) (h : seed ≤ 10006) : zAt seed k ≤ 10006 := by
  cases k with
  | zero => exact h
  | succ k => unfold zAt nextZ; omega

/-- The clue that is made. -/
def kindZ (seed i : Nat) : Int := ((zAt seed (2 * i + 1) % 6 : Nat) : Int)
def lineZ (p seed i : Nat) : Int := ((zAt seed (2 * i + 2) % p : Nat) : Int)
def madeZ (p s seed i : Nat) : Tri := (kindZ seed i, ownA (kindZ seed i) (lineZ p seed i) p s, ownB (kindZ seed i) (lineZ p seed i) p s)
def madeL (p s seed n : Nat) : List Tri := (List.range n).map (madeZ p s seed)
theorem madeL_length (p s seed n : Nat) : (madeL p s seed n).length = n := by simp [madeL]

set_option maxHeartbeats 400000 in
theorem nextNumber_any (z : Nat) (w : World) (hz : z ≤ 10006) : Calls Try.prog 35 #[.int .i64 (z : Int)] w fun e w' => e = .returned (.int .i64 ((nextZ z : Nat) : Int)) ∧ w = w' := by
  have hw1 : IntKind.i64.wrap ((z : Int) * 199) = (z : Int) * 199 := by rw [IntKind.wrap_i64]; omega
  have hw2 : IntKind.i64.wrap ((z : Int) * 199 + 2347) = (z : Int) * 199 + 2347 := by rw [IntKind.wrap_i64]; omega
  have htm : Int.tmod ((z : Int) * 199 + 2347) 10007 = ((nextZ z : Nat) : Int) := by rw [Int.tmod_eq_emod_of_nonneg (by omega)]; unfold nextZ; omega
  have hem : ((z : Int) * 199 + 2347) % 10007 = ((nextZ z : Nat) : Int) := by unfold nextZ; omega
  have hnz : nextZ z ≤ 10006 := by unfold nextZ; omega
  have hw3 : IntKind.i64.wrap ((nextZ z : Nat) : Int) = ((nextZ z : Nat) : Int) := by rw [IntKind.wrap_i64]; omega
  obtain ⟨r, hr⟩ : ∃ r, nextZ z = r := ⟨_, rfl⟩
  rw [hr] at htm hem hw3 ⊢
  clear hr hnz
  go_enter Try.func35, Try.ntmps35
  go_wp2
  go_ret
  exact ⟨rfl, rfl⟩

set_option maxHeartbeats 400000 in
theorem pzNext_any (z : Nat) (w : World) (hz : z ≤ 10006) : Calls Try.prog 32 #[.int .i64 (z : Int)] w fun e w' => e = .returned (.int .i64 ((nextZ z : Nat) : Int)) ∧ w = w' := by
  have hw1 : IntKind.i64.wrap (199 * (z : Int)) = 199 * (z : Int) := by rw [IntKind.wrap_i64]; omega
  have hw2 : IntKind.i64.wrap (199 * (z : Int) + 2347) = 199 * (z : Int) + 2347 := by rw [IntKind.wrap_i64]; omega
  have htm : Int.tmod (199 * (z : Int) + 2347) 10007 = ((nextZ z : Nat) : Int) := by rw [Int.tmod_eq_emod_of_nonneg (by omega)]; unfold nextZ; omega
  have hem : (199 * (z : Int) + 2347) % 10007 = ((nextZ z : Nat) : Int) := by unfold nextZ; omega
  have hnz : nextZ z ≤ 10006 := by unfold nextZ; omega
  have hw3 : IntKind.i64.wrap ((nextZ z : Nat) : Int) = ((nextZ z : Nat) : Int) := by rw [IntKind.wrap_i64]; omega
  obtain ⟨r, hr⟩ : ∃ r, nextZ z = r := ⟨_, rfl⟩
  rw [hr] at htm hem hw3 ⊢
  clear hr hnz
  go_enter Try.func32, Try.ntmps32
  go_wp2
  go_ret
  exact ⟨rfl, rfl⟩

theorem kindZ_le (seed i : Nat) : 0 ≤ kindZ seed i ∧ kindZ seed i ≤ 5 := by unfold kindZ; omega
theorem lineZ_le (p seed i : Nat) (hp : 0 < p) : 0 ≤ lineZ p seed i ∧ lineZ p seed i < p := by
  unfold lineZ
  have := Nat.mod_lt (zAt seed (2 * i + 2)) hp
  omega

theorem own_line (k q : Int) (p s : Nat) (hq : q < (p : Int)) : ownO k q p = true := by
  unfold ownO
  split <;> simp [hq]

set_option maxHeartbeats 2000000 in
theorem iMake_yes (p s n seed : Nat) (w : World) (h : 3 ≤ p ∧ p ≤ 14 ∧ 1 ≤ s ∧ s < p) (hn : n ≤ 6) (hs : seed ≤ 9999) :
    Calls Try.prog 9 #[.agg #[.int .i64 (p : Int), .int .i64 (s : Int)], .int .i64 (n : Int), .int .i64 (seed : Int)] w (GivesZ w (madeL p s seed n) true) := by
  have HH := Lib.hid (show decide (hidP (p : Int) (s : Int)) = true from decide_eq_true (by unfold hidP; omega))
  have n0 : ¬ (n : Int) < 0 := by omega
  have n6 : ¬ (6 : Int) < (n : Int) := by omega
  have s0 : ¬ (seed : Int) < 0 := by omega
  have s1 : ¬ (9999 : Int) < (seed : Int) := by omega
  have hmk := make_trips (P := Try.prog) Try.underlying24 info_clue n (by omega)
  go_enter Try.func9, Try.ntmps9
  go_wp2_with (first | (go_at_call 34; (with_reducible refine (isHidden_any (p : Int) (s : Int) true _ HH.out).mono ?_); rintro e w1 ⟨rfl, hb1⟩; (have c0 : w1.cell? ⟨w.heap.size, 0, none⟩ = some (.int .i64 (p : Int)) := cellB hb1 (by go_simp)); (have c1 : w1.cell? ⟨w.heap.size, 1, none⟩ = some (.int .i64 (s : Int)) := cellB hb1 (by go_simp)); (have c2 : w1.cell? ⟨w.heap.size + 1, 0, none⟩ = some (.slice none 0 0) := cellB hb1 (by go_simp)); (have f2 : w1.frozen? ⟨w.heap.size + 1, 0, none⟩ = false := frozenB hb1 (by simp) (by go_simp)); (have hB1 : Below w.heap.size w w1 := Below.trans (by go_grown) (hb1.mono (by first | omega | (simp; done) | (simp; omega)))); have hz1 := hB1.size; (have hzz : w.heap.size + 1 < w1.heap.size := by have := hb1.size; simp at this; omega)))
  go_loopw [9, 37] (fun z i wr => ∃ j : Nat, j ≤ n ∧ i = .int .i64 (j : Int) ∧ z = .int .i64 ((zAt seed (2 * j) : Nat) : Int) ∧ Hid (Trips wr w1.heap.size 58 (.slice (some ⟨w1.heap.size, 0, none⟩) n n) (fillG (madeZ p s seed) noT n j)) ∧ Hid (Below w1.heap.size w1 wr)) (fun _ i _ => n - (intOf i).toNat)
  case atStart => exact ⟨0, by omega, rfl, rfl, Lib.hid (by rw [fillG_zero]; exact Trips.made w1 w1.heap.size _ n (Nat.le_refl _) (by omega)), Lib.hid (by go_grown)⟩
  case round =>
    obtain ⟨j, hj, rfl, hzv, HI, HB⟩ := hrel
    have hz := HB.out.size
    by_cases hlt : j < n
    · have z0 := zAt_le seed (2 * j) (by omega)
      have z1 := zAt_le seed (2 * j + 1) (by omega)
      have hk := kindZ_le seed j
      have hq := lineZ_le p seed j (by omega)
      have HO := Lib.hid (own_line (kindZ seed j) (lineZ p seed j) p s hq.2)
      have HM : Hid (madeZ p s seed j = (kindZ seed j, ownA (kindZ seed j) (lineZ p seed j) p s, ownB (kindZ seed j) (lineZ p seed j) p s)) := Lib.hid rfl
      have hke : kindZ seed j = ((zAt seed (2 * j + 1) : Nat) : Int) % 6 := by unfold kindZ; omega
      have hqe : lineZ p seed j = ((zAt seed (2 * j + 2) : Nat) : Int) % (p : Int) := by unfold lineZ; simp
      have hx1 : nextZ (zAt seed (2 * j)) = zAt seed (2 * j + 1) := rfl
      have hx2 : nextZ (zAt seed (2 * j + 1)) = zAt seed (2 * (j + 1)) := rfl
      have hx3 : zAt seed (2 * j + 2) = zAt seed (2 * (j + 1)) := rfl
      have z2 := zAt_le seed (2 * (j + 1)) (by omega)
      rw [hx3] at hqe
      obtain ⟨y0, hy0⟩ : ∃ y, zAt seed (2 * j) = y := ⟨_, rfl⟩
      obtain ⟨y1, hy1⟩ : ∃ y, zAt seed (2 * j + 1) = y := ⟨_, rfl⟩
      obtain ⟨y2, hy2⟩ : ∃ y, zAt seed (2 * (j + 1)) = y := ⟨_, rfl⟩
      rw [hy0] at hzv z0 hx1
      rw [hy1] at z1 hke hx1 hx2
      rw [hy2] at z2 hqe hx2
      subst hzv
      obtain ⟨kd, hkd⟩ : ∃ kd, kindZ seed j = kd := ⟨_, rfl⟩
      obtain ⟨ln, hln⟩ : ∃ ln, lineZ p seed j = ln := ⟨_, rfl⟩
      rw [hkd] at hk hke HO HM
      rw [hln] at hq hqe HO HM
      have hw1 : Int.tmod (y1 : Int) 6 = kd := by rw [Int.tmod_eq_emod_of_nonneg (by omega), hke]
      have hw2 : IntKind.i64.wrap kd = kd := by rw [IntKind.wrap_i64]; omega
      have hw3 : Int.tmod (y2 : Int) (p : Int) = ln := by rw [Int.tmod_eq_emod_of_nonneg (by omega), hqe]
      have hw4 : IntKind.i64.wrap ln = ln := by rw [IntKind.wrap_i64]; omega
      have p1 : ¬ (p : Int) = 0 := by omega
      have p0 : ¬ p = 0 := by omega
      have hw5 : (y2 : Int) % (p : Int) = ln := hqe.symm
      have hw6 : ((y2 % p : Nat) : Int) = ln := by rw [hqe]; simp
      have hv := fun W => clueOf_any kd ln p s W h hk (fun _ => hq.1)
      rw [HO.out] at hv
      obtain ⟨oa, hoa⟩ : ∃ oa, ownA kd ln p s = oa := ⟨_, rfl⟩
      obtain ⟨ob, hob⟩ : ∃ ob, ownB kd ln p s = ob := ⟨_, rfl⟩
      rw [hoa, hob] at hv HM
      have HV := Lib.hid hv
      have HX1 := Lib.hid hx1
      have HX2 := Lib.hid hx2
      have HY2 := Lib.hid hy2
      have HSET := Lib.hid (fillG_set (madeZ p s seed) noT n j hlt)
      have hfl := Lib.hid (fillG_length (madeZ p s seed) noT n j hj)
      have d0 := cellB HB.out c0
      have d1 := cellB HB.out c1
      have j1 : 0 ≤ (j : Int) := by omega
      have j2 : (j : Int) < (n : Int) := by omega
      clear hv hx1 hx2 hy0 hy1 hy2 hkd hln hoa hob hke hqe hx3
      go_wp2_with (first
        | (go_at_call 35; (with_reducible refine (nextNumber_any y0 _ z0).mono ?_); rw [HX1.out]; rintro e w2 ⟨rfl, rfl⟩)
        | (go_at_call 35; (with_reducible refine (nextNumber_any y1 _ z1).mono ?_); rw [HX2.out]; rintro e w2 ⟨rfl, rfl⟩))
      have ne1 : ¬ w.heap.size = w1.heap.size := by omega
      have ne2 : ¬ w1.heap.size = w.heap.size := by omega
      go_region_held3 (fun w' => w'.cell? ⟨w.heap.size, 0, none⟩ = some (.int .i64 (p : Int)) ∧ w'.cell? ⟨w.heap.size, 1, none⟩ = some (.int .i64 (s : Int))) (go_keep)
        (first | (go_at_call 36; (refine (HV.out _).mono ?_); rintro e w2 ⟨rfl, hb2⟩; (have hw : Below wr.heap.size wr w2 := Below.trans (by go_grown) (hb2.mono (by first | (simp; done) | (simp; omega)))); have g0 := cellB hw d0; have g1 := cellB hw d1; have hz2 := hw.size; (have hI2 := HI.out.later hw); (have t0 := hI2.cell0 j (by rw [hfl.out]; exact hlt)); (have t1 := hI2.cell1 j (by rw [hfl.out]; exact hlt)); (have t2 := hI2.cell2 j (by rw [hfl.out]; exact hlt)); (have r0 := hI2.frozenAt (j * 3)); (have r1 := hI2.frozenAt (j * 3 + 1)); (have r2 := hI2.frozenAt (j * 3 + 2)); (have HS := Lib.hid (hI2.stored j kd oa ob)); (have HB3 := Lib.hid (hI2.below (HB.out.trans (hw.mono hz)) (by omega) HS.out.2)); clear hI2))
      go_wp2
      go_roundw
      case rel => exact ⟨j + 1, by omega, by go_num, by rw [HY2.out], Lib.hid (by rw [← HSET.out, HM.out]; exact HS.out.1), HB3⟩
      case measure => simp [intOf]; omega
    · obtain rfl : j = n := by omega
      have HB0 := HB.out
      have e2 := cellB HB0 c2
      have r2 := frozenB HB0 (by omega) f2
      rw [fillG_all] at HI
      have HL : Hid ((List.range j).map (madeZ p s seed) = madeL p s seed j) := Lib.hid rfl
      go_wp2
      refine bodyPost_ret (v := .tuple #[.agg #[.slice (some ⟨w1.heap.size, 0, none⟩) j j], .bool true]) (by simp [results, Try.results9, go_sem, e2]) rfl ⟨_, rfl, ?_, ?_⟩
      · have h9 := HI.out.mono (B' := w.heap.size + 2) (by omega)
        rw [HL.out] at h9
        exact ((h9.inn.setC _ _ (by show w.heap.size + 1 < _; omega)).wider (by omega) (by simp))
      · exact (hB1.trans (HB0.mono hz1)).setC _ _ (by show _ ≤ w.heap.size + 1; omega)
end Go.Proofs.Ytpliaenpencocab
