/- Quotients of small whole numbers as floats stand in the order of the quotients. Nothing of the program. -/
import Derived.Test.YtngonpiiehmlaabFP
namespace Go.Proofs.Ytngonpiiehmlaab
open Ieee
set_option linter.unusedVariables false

/-- A power of two, under a name: nothing is to be computed of it. -/
def pw (k : Nat) : Nat := 2 ^ k

theorem pw_pos (k : Nat) : 0 < pw k := Nat.two_pow_pos k

theorem pw_mul (x L k : Nat) : x * 2 ^ (L + k) = x * 2 ^ L * pw k := by
  rw [Nat.pow_add, Nat.mul_assoc]; rfl

def big : Nat := pw 1036

theorem big_pos : 0 < big := pw_pos 1036

theorem big_mul (x L : Nat) : x * 2 ^ (L + 1036) = x * 2 ^ L * big := pw_mul x L 1036

theorem bin_dbl : double.binade = 2 ^ 52 := rfl
theorem sign_dbl : double.signWeight = 2 ^ 63 := rfl
theorem inf_dbl : double.infRung = 2047 * 2 ^ 52 := by decide
theorem least_dbl : double.leastPlace = -1074 := by decide
theorem frac_dbl : double.fractionBits = 52 := rfl

/-- What a word of a full significand stands for. -/
theorem read_word (E K : Nat) (e1 : 1 ≤ E) (e2 : E ≤ 2000) (k1 : 2 ^ 52 ≤ K) (k2 : K ≤ 2 ^ 53) :
    ∃ (m : Nat) (p : Int), double.read (E * 2 ^ 52 + K) = .number false m p ∧ -1074 ≤ p ∧ m * 2 ^ (p + 1100).toNat = K * 2 ^ (E + 26) := by
  have hs : (E * 2 ^ 52 + K) / 2 ^ 63 = 0 := Nat.div_eq_of_lt (by omega)
  have hm : (E * 2 ^ 52 + K) % 2 ^ 63 = E * 2 ^ 52 + K := Nat.mod_eq_of_lt (by omega)
  unfold Format.read
  simp only [bin_dbl, sign_dbl, inf_dbl, least_dbl, hs, hm]
  rw [if_neg (by omega), if_pos (by omega)]
  by_cases h : K < 2 ^ 53
  · have d1 : (E * 2 ^ 52 + K) / 2 ^ 52 = E + 1 := by omega
    have d2 : (E * 2 ^ 52 + K) % 2 ^ 52 = K - 2 ^ 52 := by omega
    rw [d1, d2]
    refine ⟨_, _, rfl, by omega, ?_⟩
    rw [show 2 ^ 52 + (K - 2 ^ 52) = K by omega, show ((-1074 : Int) + ((E + 1 - 1 : Nat) : Int) + 1100).toNat = E + 26 by omega]
  · have hK : K = 2 ^ 53 := by omega
    subst hK
    have d1 : (E * 2 ^ 52 + 2 ^ 53) / 2 ^ 52 = E + 2 := by omega
    have d2 : (E * 2 ^ 52 + 2 ^ 53) % 2 ^ 52 = 0 := by omega
    rw [d1, d2]
    refine ⟨_, _, rfl, by omega, ?_⟩
    rw [show ((-1074 : Int) + ((E + 2 - 1 : Nat) : Int) + 1100).toNat = E + 26 + 1 by omega, show (2 : Nat) ^ (E + 26 + 1) = 2 ^ (E + 26) * 2 from Nat.pow_succ ..]
    generalize 2 ^ (E + 26) = z
    rw [Nat.add_zero, Nat.mul_comm z 2, ← Nat.mul_assoc]

theorem cut_even (q drop : Nat) (hd : drop ≤ q.log2 + 2) : ∃ K, Toward.even.cut false q drop = K ∧ K * 2 ^ drop ≤ q + 2 ^ drop ∧ q ≤ K * 2 ^ drop + 2 ^ drop ∧ q / 2 ^ drop ≤ K ∧ K ≤ q / 2 ^ drop + 1 := by
  refine ⟨_, rfl, ?_⟩
  unfold Toward.cut
  simp only [Nat.min_eq_left hd, Nat.one_shiftLeft]
  have h1 := Nat.div_add_mod q (2 ^ drop)
  have h2 := Nat.mod_lt q (Nat.two_pow_pos drop)
  rw [Nat.mul_comm] at h1
  have hb : ∀ b : Bool, b.toNat ≤ 1 := fun b => by cases b <;> decide
  generalize (decide (2 ^ drop < 2 * (q % 2 ^ drop)) || 2 ^ drop == 2 * (q % 2 ^ drop) && q / 2 ^ drop % 2 == 1) = b
  have hbb := hb b
  have h3 : (q / 2 ^ drop + b.toNat) * 2 ^ drop = q / 2 ^ drop * 2 ^ drop + b.toNat * 2 ^ drop := Nat.add_mul _ _ _
  have h4 : b.toNat * 2 ^ drop ≤ 1 * 2 ^ drop := Nat.mul_le_mul_right _ hbb
  rw [h3]
  omega

theorem log_is (q k : Nat) (h1 : 2 ^ k ≤ q) (h2 : q < 2 ^ (k + 1)) : q.log2 = k := by
  have hq : q ≠ 0 := by have := Nat.two_pow_pos k; omega
  have a := (Nat.log2_lt hq).2 h2
  have b := (Nat.le_log2 hq).2 h1
  omega

theorem near_word (q : Nat) (place : Int) (q1 : 2 ^ 54 ≤ q) (q2 : q < 2 ^ 56) (p1 : -200 ≤ place) (p2 : place ≤ 0) :
    ∃ K drop : Nat, (drop = 2 ∨ drop = 3) ∧ double.nearest false q place = (place + drop + 1074).toNat * 2 ^ 52 + K ∧ 2 ^ 52 ≤ K ∧ K ≤ 2 ^ 53 ∧ K * 2 ^ drop ≤ q + 2 ^ drop ∧ q ≤ K * 2 ^ drop + 2 ^ drop := by
  obtain ⟨drop, hd, hl, l1, l2⟩ : ∃ drop, (drop = 2 ∨ drop = 3) ∧ q.log2 = 52 + drop ∧ 2 ^ (52 + drop) ≤ q ∧ q < 2 ^ (53 + drop) := by
    by_cases h : q < 2 ^ 55
    · exact ⟨2, .inl rfl, log_is q 54 q1 h, q1, h⟩
    · exact ⟨3, .inr rfl, log_is q 55 (by omega) q2, by omega, q2⟩
  obtain ⟨K, hK, k1, k2, k3, k4⟩ := cut_even q drop (by omega)
  have hlo : 2 ^ 52 ≤ q / 2 ^ drop := by
    rw [Nat.le_div_iff_mul_le (Nat.two_pow_pos _), ← Nat.pow_add]; exact l1
  have hhi : q / 2 ^ drop < 2 ^ 53 := by
    rw [Nat.div_lt_iff_lt_mul (Nat.two_pow_pos _), ← Nat.pow_add]; exact l2
  refine ⟨K, drop, hd, ?_, by omega, by omega, k1, k2⟩
  unfold Format.nearest
  rw [if_neg (by omega)]
  simp only [frac_dbl, least_dbl, bin_dbl, inf_dbl, hl]
  have hlast : max (place + ((52 + drop : Nat) : Int) - ((52 : Nat) : Int)) (-1074) = place + drop := by omega
  rw [hlast]
  have e1 : (place - (place + (drop : Int))).toNat = 0 := by omega
  have e2 : (place + (drop : Int) - place).toNat = drop := by omega
  rw [e1, e2, Nat.shiftLeft_zero, hK]
  unfold Format.word
  rw [if_neg (by simp), show place + (drop : Int) - (-1074) = place + drop + 1074 by omega, Nat.min_eq_left]
  have : (place + (drop : Int) + 1074).toNat ≤ 1080 := by omega
  omega

theorem shl (n k : Nat) : n <<< k = n * 2 ^ k := Nat.shiftLeft_eq n k

theorem norm_bounds (n : Nat) (h1 : 1 ≤ n) (h2 : n ≤ 10000) : n.log2 ≤ 13 ∧ 2 ^ 52 ≤ n <<< (52 - n.log2) ∧ n <<< (52 - n.log2) < 2 ^ 53 := by
  have hn : n ≠ 0 := by omega
  have a := Nat.log2_self_le hn
  have b : n < 2 ^ (n.log2 + 1) := Nat.lt_log2_self
  have hl : n.log2 ≤ 13 := by
    have := (Nat.log2_lt (k := 14) hn).2 (by omega)
    omega
  refine ⟨hl, ?_, ?_⟩
  · rw [shl]
    calc 2 ^ 52 = 2 ^ n.log2 * 2 ^ (52 - n.log2) := by rw [← Nat.pow_add]; congr 1; omega
      _ ≤ n * 2 ^ (52 - n.log2) := Nat.mul_le_mul_right _ a
  · rw [shl]
    calc n * 2 ^ (52 - n.log2) < 2 ^ (n.log2 + 1) * 2 ^ (52 - n.log2) := Nat.mul_lt_mul_of_pos_right b (Nat.two_pow_pos _)
      _ = 2 ^ 53 := by rw [← Nat.pow_add]; congr 1; omega

/-- A quotient as a float: its value, times 2 to the 1100th, is K times 2 to the L + 1036th, which is near the quotient. -/
theorem quo_fl (n a : Nat) (h1 : 1 ≤ n) (h2 : n ≤ 10000) (a1 : 1 ≤ a) (a2 : a ≤ 100) :
    ∃ (g m : Nat) (p : Int) (U : Nat), double.div (fl n) (fl a) = some g ∧ double.read g = .number false m p ∧ -1074 ≤ p ∧ m * 2 ^ (p + 1100).toNat = U * big ∧ U * a ≤ n * 2 ^ 64 + 2 ^ 26 * a ∧ n * 2 ^ 64 ≤ U * a + 2 ^ 26 * a := by
  obtain ⟨l1, m1, m2⟩ := norm_bounds n h1 h2
  obtain ⟨l2, n1, n2⟩ := norm_bounds a a1 (by omega)
  have la : a.log2 ≤ 6 := by
    have := (Nat.log2_lt (k := 7) (n := a) (by omega)).2 (by omega)
    omega
  have eM := shl n (52 - n.log2)
  have eN := shl a (52 - a.log2)
  unfold Format.div
  rw [read_fl n h1 h2, read_fl a a1 (by omega)]
  generalize hln : n.log2 = ln at *
  generalize hla : a.log2 = lb at *
  generalize hM : n <<< (52 - ln) = M at *
  generalize hN : a <<< (52 - lb) = N at *
  have logM : M.log2 = 52 := log_is M 52 m1 m2
  have logN : N.log2 = 52 := log_is N 52 n1 n2
  simp only [Datum.quotient, frac_dbl, logM, logN]
  rw [if_neg (by omega)]
  simp only [Option.map_some, Format.write, Bool.xor_self, show 52 + 2 + 52 - 52 = 54 from rfl, shl M 54]
  have hdm := Nat.div_add_mod (M * 2 ^ 54) N
  have hmod := Nat.mod_lt (M * 2 ^ 54) (show 0 < N by omega)
  have hb : ((M * 2 ^ 54 % N != 0).toNat) ≤ 1 := by cases (M * 2 ^ 54 % N != 0) <;> decide
  generalize (M * 2 ^ 54 % N != 0).toNat = s at *
  generalize hf : M * 2 ^ 54 / N = f at *
  generalize M * 2 ^ 54 % N = r at *
  have f1 : 2 ^ 53 ≤ f := by
    rw [← hf, Nat.le_div_iff_mul_le (by omega)]; omega
  have f2 : f < 2 ^ 55 := by
    rw [← hf, Nat.div_lt_iff_lt_mul (by omega)]; omega
  obtain ⟨K, drop, hd, hnear, k1, k2, k3, k4⟩ := near_word (2 * f + s) ((ln : Int) - 52 - ((lb : Int) - 52) - ((54 : Nat) : Int) - 1) (by omega) (by omega) (by omega) (by omega)
  obtain ⟨E, hE⟩ : ∃ E : Nat, E = ((ln : Int) - 52 - ((lb : Int) - 52) - ((54 : Nat) : Int) - 1 + drop + 1074).toNat := ⟨_, rfl⟩
  rw [← hE] at hnear
  obtain ⟨m, p, hr, hp, hv⟩ := read_word E K (by omega) (by omega) k1 k2
  -- the value's own places: E + 26 = L + 1036 with L = ln + drop + 9 - lb
  obtain ⟨L, hL⟩ : ∃ L, L + 1036 = E + 26 := ⟨E + 26 - 1036, by omega⟩
  have hL2 : L + lb = ln + drop + 9 := by omega
  refine ⟨_, m, p, K * 2 ^ L, rfl, by rw [hnear]; exact hr, hp, by rw [hv, ← hL, big_mul], ?_, ?_⟩
  all_goals
    obtain ⟨D, hD⟩ : ∃ D, D = 2 ^ drop := ⟨_, rfl⟩
    have hD8 : D ≤ 8 := by rw [hD]; rcases hd with rfl | rfl <;> decide
    obtain ⟨W, hW⟩ : ∃ W, W = 2 ^ (43 - ln) := ⟨_, rfl⟩
    have hW30 : 2 ^ 30 ≤ W := by rw [hW]; exact Nat.pow_le_pow_right (by decide) (by omega)
    have A1 : (K * 2 ^ L * a) * W = (K * D) * N := by
      have e : 2 ^ L * W = D * 2 ^ (52 - lb) := by rw [hW, hD, ← Nat.pow_add, ← Nat.pow_add]; congr 1; omega
      calc (K * 2 ^ L * a) * W = K * a * (2 ^ L * W) := by ac_rfl
        _ = K * a * (D * 2 ^ (52 - lb)) := by rw [e]
        _ = (K * D) * (a * 2 ^ (52 - lb)) := by ac_rfl
        _ = (K * D) * N := by rw [← eN]
    have A2 : (n * 2 ^ 64) * W = 2 * (M * 2 ^ 54) := by
      have e : 2 ^ 64 * W = 2 ^ (52 - ln) * 2 ^ 55 := by rw [hW, ← Nat.pow_add, ← Nat.pow_add]; congr 1; omega
      calc (n * 2 ^ 64) * W = n * (2 ^ 64 * W) := by rw [Nat.mul_assoc]
        _ = n * (2 ^ (52 - ln) * 2 ^ 55) := by rw [e]
        _ = M * 2 ^ 55 := by rw [← Nat.mul_assoc, ← eM]
        _ = 2 * (M * 2 ^ 54) := by rw [show 2 ^ 55 = 2 ^ 54 * 2 from rfl, ← Nat.mul_assoc, Nat.mul_comm]
    have A3 : 10 * N ≤ 2 ^ 26 * a * W := by
      have e1 : N ≤ a * 2 ^ 52 := by rw [eN]; exact Nat.mul_le_mul_left _ (Nat.pow_le_pow_right (by decide) (by omega))
      have e2 : 2 ^ 26 * a * 2 ^ 30 ≤ 2 ^ 26 * a * W := Nat.mul_le_mul_left _ hW30
      omega
    rw [← hD] at k3 k4
    have B1 := Nat.mul_le_mul_right N k3
    have B2 := Nat.mul_le_mul_right N k4
    have c1 : (2 * f + s + D) * N = 2 * (N * f) + s * N + D * N := by rw [Nat.add_mul, Nat.add_mul, Nat.mul_assoc, Nat.mul_comm f N]
    have c2 : (2 * f + s) * N = 2 * (N * f) + s * N := by rw [Nat.add_mul, Nat.mul_assoc, Nat.mul_comm f N]
    have c3 : (K * D + D) * N = K * D * N + D * N := Nat.add_mul _ _ _
    have c4 : s * N ≤ 1 * N := Nat.mul_le_mul_right _ hb
    have c5 : D * N ≤ 8 * N := Nat.mul_le_mul_right _ hD8
    rw [c1] at B1
    rw [c2, c3] at B2
    refine Nat.le_of_mul_le_mul_right (c := W) ?_ (by omega)
    rw [Nat.add_mul, A1, A2]
    omega

theorem cmp_nat (x y : Nat) : compare (x : Int) (y : Int) = if x < y then .lt else if x = y then .eq else .gt := by
  simp only [compare, compareOfLessAndEq, Int.ofNat_lt, Int.natCast_inj]

theorem order_num (m1 m2 : Nat) (p1 p2 : Int) (h1 : -1100 ≤ p1) (h2 : -1100 ≤ p2) :
    ∃ o, Datum.order (.number false m1 p1) (.number false m2 p2) = some o ∧ (m1 * 2 ^ (p1 + 1100).toNat < m2 * 2 ^ (p2 + 1100).toNat → o = .lt) ∧ (m2 * 2 ^ (p2 + 1100).toNat < m1 * 2 ^ (p1 + 1100).toNat → o = .gt) ∧ (m1 * 2 ^ (p1 + 1100).toNat = m2 * 2 ^ (p2 + 1100).toNat → o = .eq) := by
  unfold Datum.order
  simp only [signed, shl, Bool.false_eq_true, if_false, cmp_nat]
  obtain ⟨b, hb⟩ : ∃ b, min p1 p2 = b := ⟨_, rfl⟩
  rw [hb]
  have e1 : m1 * 2 ^ (p1 + 1100).toNat = (m1 * 2 ^ (p1 - b).toNat) * 2 ^ (b + 1100).toNat := by rw [Nat.mul_assoc, ← Nat.pow_add]; congr 2; omega
  have e2 : m2 * 2 ^ (p2 + 1100).toNat = (m2 * 2 ^ (p2 - b).toNat) * 2 ^ (b + 1100).toNat := by rw [Nat.mul_assoc, ← Nat.pow_add]; congr 2; omega
  rw [e1, e2]
  have hz := Nat.two_pow_pos (b + 1100).toNat
  generalize m1 * 2 ^ (p1 - b).toNat = x
  generalize m2 * 2 ^ (p2 - b).toNat = y
  generalize 2 ^ (b + 1100).toNat = z at *
  refine ⟨_, rfl, fun h => ?_, fun h => ?_, fun h => ?_⟩
  · have : x < y := Nat.lt_of_mul_lt_mul_right h
    rw [if_pos this]
  · have : y < x := Nat.lt_of_mul_lt_mul_right h
    rw [if_neg (by omega), if_neg (by omega)]
  · have : x = y := Nat.eq_of_mul_eq_mul_right hz h
    rw [if_neg (by omega), if_pos this]

/-- The quotient as a float. -/
def gu (n a : Nat) : Nat := (double.div (fl n) (fl a)).getD 0

theorem zero_all : allR (fun a => double.div (fl 0) (fl a) == some 0) 1 100 = true := by decide +kernel

theorem read_zero : double.read 0 = .number false 0 (-1074) := by decide +kernel

/-- What is known of it. -/
theorem gu_is (n a : Nat) (h2 : n ≤ 10000) (a1 : 1 ≤ a) (a2 : a ≤ 100) :
    ∃ (m : Nat) (p : Int) (U : Nat), double.div (fl n) (fl a) = some (gu n a) ∧ double.read (gu n a) = .number false m p ∧ -1074 ≤ p ∧ m * 2 ^ (p + 1100).toNat = U * big ∧ U * a ≤ n * 2 ^ 64 + 2 ^ 26 * a ∧ n * 2 ^ 64 ≤ U * a + 2 ^ 26 * a := by
  by_cases h : n = 0
  · subst h
    have hd : double.div (fl 0) (fl a) = some 0 := eq_of_beq (allR_at zero_all a (by omega) (by omega))
    have hg : gu 0 a = 0 := by unfold gu; rw [hd]; rfl
    refine ⟨0, -1074, 0, by rw [hd, hg], by rw [hg]; exact read_zero, by omega, by rw [Nat.zero_mul, Nat.zero_mul], by rw [Nat.zero_mul]; exact Nat.zero_le _, by rw [Nat.zero_mul]; exact Nat.zero_le _⟩
  · obtain ⟨g, m, p, U, hd, hr, hp, hv, u1, u2⟩ := quo_fl n a (by omega) h2 a1 a2
    have hg : gu n a = g := by unfold gu; rw [hd]; rfl
    exact ⟨m, p, U, by rw [hd, hg], by rw [hg]; exact hr, hp, hv, u1, u2⟩

theorem gu_order (n a n2 a2 : Nat) (h : n ≤ 10000) (h1 : 1 ≤ a ∧ a ≤ 100) (h2 : n2 ≤ 10000) (h3 : 1 ≤ a2 ∧ a2 ≤ 100) :
    ∃ o, double.order (gu n a) (gu n2 a2) = some o ∧ (n * a2 < n2 * a → o = .lt) ∧ (n2 * a < n * a2 → o = .gt) := by
  obtain ⟨m, p, U, _, hr, hp, hv, u1, u2⟩ := gu_is n a h h1.1 h1.2
  obtain ⟨m', p', V, _, hr', hp', hv', v1, v2⟩ := gu_is n2 a2 h2 h3.1 h3.2
  obtain ⟨o, ho, o1, o2, o3⟩ := order_num m m' p p' (by omega) (by omega)
  unfold Format.order
  rw [hr, hr']
  rw [hv, hv'] at o1 o2
  have hz := big_pos
  have haa : a * a2 ≤ 10000 := by have := Nat.mul_le_mul h1.2 h3.2; omega
  have hpos : 0 < a * a2 := Nat.mul_pos h1.1 h3.1
  have x1 := Nat.mul_le_mul_right a2 u1
  have x2 := Nat.mul_le_mul_right a2 u2
  have y1 := Nat.mul_le_mul_right a v1
  have y2 := Nat.mul_le_mul_right a v2
  have c1 : U * a * a2 = U * (a * a2) := Nat.mul_assoc ..
  have c2 : V * a2 * a = V * (a * a2) := by rw [Nat.mul_assoc, Nat.mul_comm a2 a]
  have c3 : (n * 2 ^ 64 + 2 ^ 26 * a) * a2 = n * a2 * 2 ^ 64 + 2 ^ 26 * (a * a2) := by rw [Nat.add_mul, Nat.mul_right_comm, Nat.mul_assoc (2 ^ 26)]
  have c4 : (n2 * 2 ^ 64 + 2 ^ 26 * a2) * a = n2 * a * 2 ^ 64 + 2 ^ 26 * (a * a2) := by rw [Nat.add_mul, Nat.mul_right_comm, Nat.mul_assoc (2 ^ 26), Nat.mul_comm a2 a]
  have c5 : (U * a + 2 ^ 26 * a) * a2 = U * (a * a2) + 2 ^ 26 * (a * a2) := by rw [Nat.add_mul, Nat.mul_assoc, Nat.mul_assoc]
  have c6 : (V * a2 + 2 ^ 26 * a2) * a = V * (a * a2) + 2 ^ 26 * (a * a2) := by rw [Nat.add_mul, Nat.mul_assoc, Nat.mul_assoc, Nat.mul_comm a2 a]
  have c7 : n * 2 ^ 64 * a2 = n * a2 * 2 ^ 64 := Nat.mul_right_comm ..
  have c8 : n2 * 2 ^ 64 * a = n2 * a * 2 ^ 64 := Nat.mul_right_comm ..
  rw [c1, c3] at x1
  rw [c7, c5] at x2
  rw [c2, c4] at y1
  rw [c8, c6] at y2
  refine ⟨o, ho, fun g => o1 ?_, fun g => o2 ?_⟩
  · refine Nat.mul_lt_mul_of_pos_right ?_ hz
    refine Nat.lt_of_mul_lt_mul_right (a := a * a2) ?_
    omega
  · refine Nat.mul_lt_mul_of_pos_right ?_ hz
    refine Nat.lt_of_mul_lt_mul_right (a := a * a2) ?_
    omega

theorem gu_self (n a : Nat) (h : n ≤ 10000) (h1 : 1 ≤ a ∧ a ≤ 100) : double.order (gu n a) (gu n a) = some .eq := by
  obtain ⟨m, p, U, _, hr, hp, _⟩ := gu_is n a h h1.1 h1.2
  obtain ⟨o, ho, _, _, o3⟩ := order_num m m p p (by omega) (by omega)
  unfold Format.order
  rw [hr, ho, o3 rfl]

end Go.Proofs.Ytngonpiiehmlaab
