/- What divides what: least common multiples, steps that solve a congruence, and many at once. Nothing of the program. -/
import Derived.Test.YtnnhjnogebicbabB1
namespace Go.Proofs.Ytnnhjnogebicbab

theorem nodup_len (n : Nat) : ∀ (l : List Nat), l.Nodup → (∀ x ∈ l, x < n) → l.length ≤ n := by
  induction n with
  | zero =>
    intro l _ h
    cases l with
    | nil => simp
    | cons a l => exact absurd (h a (by simp)) (by omega)
  | succ n ih =>
    intro l hl h
    have h1 := ih (l.erase n) (hl.erase n) (fun x hx => by
      have := (List.Nodup.mem_erase_iff hl).1 hx
      have := h x this.2
      omega)
    rw [List.length_erase] at h1
    split at h1 <;> omega

/-- What is told by different numbers below n is all of the numbers below n. -/
theorem hits_all (n : Nat) (f : Nat → Nat) (hf : ∀ i, i < n → f i < n) (hi : ∀ i j, i < j → j < n → f i ≠ f j) (y : Nat) (hy : y < n) : ∃ i, i < n ∧ f i = y := by
  refine Classical.byContradiction fun h => ?_
  have hn : ((List.range n).map f).Nodup := by
    rw [List.nodup_iff_pairwise_ne, List.pairwise_map]
    refine List.Pairwise.imp_of_mem (R := fun a b => a < b) ?_ List.pairwise_lt_range
    intro a b _ hb hab
    exact hi a b hab (List.mem_range.1 hb)
  have hnot : y ∉ (List.range n).map f := fun hm => by
    obtain ⟨i, h1, h2⟩ := List.mem_map.1 hm
    exact h ⟨i, List.mem_range.1 h1, h2⟩
  have := nodup_len n (y :: (List.range n).map f) (List.nodup_cons.2 ⟨hnot, hn⟩) (fun x hx => by
    rcases List.mem_cons.1 hx with rfl | hx
    · exact hy
    · obtain ⟨i, h1, rfl⟩ := List.mem_map.1 hx
      exact hf i (List.mem_range.1 h1))
  simp at this
  omega

theorem mod_eq_dvd_sub {a b n : Nat} (h : a ≤ b) (e : a % n = b % n) : n ∣ b - a := by
  refine ⟨b / n - a / n, ?_⟩
  have h1 := Nat.div_add_mod a n
  have h2 := Nat.div_add_mod b n
  rw [Nat.mul_sub]
  omega

theorem coprime_hits (m b y : Nat) (hm : 1 ≤ m) (hc : Nat.gcd m b = 1) (hy : y < m) : ∃ i, i < m ∧ i * b % m = y := by
  refine hits_all m (fun i => i * b % m) (fun i _ => Nat.mod_lt _ hm) (fun i j hij hj e => ?_) y hy
  have h1 : m ∣ j * b - i * b := mod_eq_dvd_sub (Nat.mul_le_mul_right b (Nat.le_of_lt hij)) e
  rw [← Nat.sub_mul] at h1
  have h2 : m ∣ j - i := Nat.Coprime.dvd_of_dvd_mul_right (show Nat.Coprime m b from hc) h1
  have := Nat.le_of_dvd (by omega) h2
  omega

/-- A congruence that what divides both allows is solved below t. -/
theorem lin_solve (P t : Nat) (x c : Int) (ht : 1 ≤ t) (hd : (Nat.gcd P t : Int) ∣ c - x) : ∃ n : Nat, n < t ∧ (t : Int) ∣ x + n * P - c := by
  obtain ⟨e, he⟩ : ∃ e, Nat.gcd P t = e := ⟨_, rfl⟩
  obtain ⟨p', hp⟩ := Nat.gcd_dvd_left P t
  obtain ⟨t', ht'⟩ := Nat.gcd_dvd_right P t
  rw [he] at hd hp ht'
  have e1 : 1 ≤ e := by rw [← he]; exact Nat.gcd_pos_of_pos_right P (by omega)
  have t1 : 1 ≤ t' := by
    rcases Nat.eq_zero_or_pos t' with h | h
    · subst h; simp at ht'; omega
    · exact h
  have hc : Nat.gcd t' p' = 1 := by
    have h1 := Nat.gcd_mul_left e t' p'
    rw [← ht', ← hp, Nat.gcd_comm, he] at h1
    have : e * 1 = e * Nat.gcd t' p' := by rw [Nat.mul_one]; exact h1
    exact (Nat.eq_of_mul_eq_mul_left (by omega) this).symm
  obtain ⟨d, hd'⟩ := hd
  obtain ⟨y, hy⟩ : ∃ y : Nat, (y : Int) = d % (t' : Int) := ⟨(d % (t' : Int)).toNat, Int.toNat_of_nonneg (Int.emod_nonneg _ (by omega))⟩
  have y1 : y < t' := by
    have := Int.emod_lt_of_pos d (show 0 < (t' : Int) by omega)
    omega
  obtain ⟨i, hi, hiy⟩ := coprime_hits t' p' y t1 hc y1
  refine ⟨i, ?_, ?_⟩
  · have := Nat.le_mul_of_pos_left t' (show 0 < e by omega)
    omega
  · have a1 : (i * p' : Nat) = t' * (i * p' / t') + y := by rw [← hiy]; exact (Nat.div_add_mod _ _).symm
    have a2 : d = (t' : Int) * (d / t') + y := by rw [hy]; exact (Int.mul_ediv_add_emod d t').symm
    obtain ⟨q, hq⟩ : ∃ q, i * p' / t' = q := ⟨_, rfl⟩
    obtain ⟨s, hs⟩ : ∃ s, d / (t' : Int) = s := ⟨_, rfl⟩
    rw [hq] at a1
    rw [hs] at a2
    have a3 : ((i : Int) * (p' : Int)) = t' * q + y := by exact_mod_cast a1
    refine ⟨(q : Int) - s, ?_⟩
    have b1 : (i : Int) * (P : Int) = (e : Int) * ((i : Int) * (p' : Int)) := by
      rw [hp, Int.natCast_mul]
      exact Int.mul_left_comm _ _ _
    have b2 : c = x + (e : Int) * d := by omega
    rw [b1, a3, b2, a2, ht', Int.natCast_mul]
    have b3 : (e : Int) * ((t' : Int) * q + y) = (e : Int) * (t' : Int) * q + e * y := by rw [Int.mul_add, Int.mul_assoc]
    have b4 : (e : Int) * ((t' : Int) * s + y) = (e : Int) * (t' : Int) * s + e * y := by rw [Int.mul_add, Int.mul_assoc]
    rw [b3, b4, Int.mul_sub]
    omega

/-- What divides a least common multiple and c is had from what divides each and c. -/
theorem gcd_lcm_dvd (a b c D : Nat) (ha : 1 ≤ a) (h1 : Nat.gcd a c ∣ D) (h2 : Nat.gcd b c ∣ D) : Nat.gcd (Nat.lcm a b) c ∣ D := by
  refine Nat.dvd_trans ?_ (Nat.lcm_dvd h1 h2)
  have hv : 0 < Nat.gcd (Nat.gcd a b) c := Nat.gcd_pos_of_pos_left _ (Nat.gcd_pos_of_pos_left _ ha)
  have hg : Nat.gcd (Nat.gcd a c) (Nat.gcd b c) = Nat.gcd (Nat.gcd a b) c := by
    apply Nat.dvd_antisymm
    · refine Nat.dvd_gcd (Nat.dvd_gcd ?_ ?_) ?_
      · exact Nat.dvd_trans (Nat.gcd_dvd_left _ _) (Nat.gcd_dvd_left _ _)
      · exact Nat.dvd_trans (Nat.gcd_dvd_right _ _) (Nat.gcd_dvd_left _ _)
      · exact Nat.dvd_trans (Nat.gcd_dvd_left _ _) (Nat.gcd_dvd_right _ _)
    · refine Nat.dvd_gcd (Nat.dvd_gcd ?_ ?_) (Nat.dvd_gcd ?_ ?_)
      · exact Nat.dvd_trans (Nat.gcd_dvd_left _ _) (Nat.gcd_dvd_left _ _)
      · exact Nat.gcd_dvd_right _ _
      · exact Nat.dvd_trans (Nat.gcd_dvd_left _ _) (Nat.gcd_dvd_right _ _)
      · exact Nat.gcd_dvd_right _ _
  have hm := Nat.gcd_mul_lcm (Nat.gcd a c) (Nat.gcd b c)
  rw [hg] at hm
  have hab := Nat.gcd_mul_lcm a b
  refine Nat.dvd_of_mul_dvd_mul_left hv ?_
  rw [hm]
  have hx : Nat.gcd a c * Nat.gcd b c = Nat.gcd (Nat.gcd (a * b) (a * c)) (Nat.gcd (c * b) (c * c)) := by
    rw [Nat.gcd_mul_left, Nat.gcd_mul_left, ← Nat.gcd_mul_right]
  rw [hx]
  have va : Nat.gcd (Nat.gcd a b) c ∣ a := Nat.dvd_trans (Nat.gcd_dvd_left _ _) (Nat.gcd_dvd_left _ _)
  have vb : Nat.gcd (Nat.gcd a b) c ∣ b := Nat.dvd_trans (Nat.gcd_dvd_left _ _) (Nat.gcd_dvd_right _ _)
  have vc : Nat.gcd (Nat.gcd a b) c ∣ c := Nat.gcd_dvd_right _ _
  have uc : Nat.gcd (Nat.lcm a b) c ∣ c := Nat.gcd_dvd_right _ _
  refine Nat.dvd_gcd (Nat.dvd_gcd ?_ ?_) (Nat.dvd_gcd ?_ ?_)
  · rw [← hab]; exact Nat.mul_dvd_mul (Nat.gcd_dvd_left _ _) (Nat.gcd_dvd_left _ _)
  · exact Nat.mul_dvd_mul va uc
  · rw [Nat.mul_comm c b]; exact Nat.mul_dvd_mul vb uc
  · exact Nat.mul_dvd_mul vc uc

/-- The least common multiple of the numbers told below n. -/
def lcmT (t : Nat → Nat) : Nat → Nat
  | 0 => 1
  | n + 1 => Nat.lcm (lcmT t n) (t n)

theorem lcmT_pos (t : Nat → Nat) : ∀ n, (∀ i, i < n → 1 ≤ t i) → 1 ≤ lcmT t n
  | 0, _ => Nat.le_refl _
  | n + 1, h => Nat.lcm_pos (lcmT_pos t n fun i hi => h i (by omega)) (h n (by omega))

theorem dvd_lcmT (t : Nat → Nat) : ∀ n i, i < n → t i ∣ lcmT t n
  | n + 1, i, h => by
    rcases Nat.lt_or_ge i n with h1 | h1
    · exact Nat.dvd_trans (dvd_lcmT t n i h1) (Nat.dvd_lcm_left _ _)
    · obtain rfl : i = n := by omega
      exact Nat.dvd_lcm_right _ _

theorem lcmT_dvd (t : Nat → Nat) (D : Nat) : ∀ n, (∀ i, i < n → t i ∣ D) → lcmT t n ∣ D
  | 0, _ => Nat.one_dvd _
  | n + 1, h => Nat.lcm_dvd (lcmT_dvd t D n fun i hi => h i (by omega)) (h n (by omega))

theorem gcd_lcmT_dvd (t : Nat → Nat) (c D : Nat) : ∀ n, (∀ i, i < n → 1 ≤ t i) → (∀ i, i < n → Nat.gcd (t i) c ∣ D) → Nat.gcd (lcmT t n) c ∣ D
  | 0, _, _ => by simp [lcmT]
  | n + 1, h, hd => gcd_lcm_dvd _ _ c D (lcmT_pos t n fun i hi => h i (by omega)) (gcd_lcmT_dvd t c D n (fun i hi => h i (by omega)) fun i hi => hd i (by omega)) (hd n (by omega))

/-- Steps that are at the teeth of n wheels are moved on by whole periods to be at those of the next one, too, if all agree two by two. -/
theorem next_solve (t : Nat → Nat) (c : Nat → Int) (n : Nat) (x : Int) (ht : ∀ i, i ≤ n → 1 ≤ t i) (hx : ∀ i, i < n → (t i : Int) ∣ x - c i)
    (hp : ∀ i, i < n → (Nat.gcd (t n) (t i) : Int) ∣ c n - c i) : ∃ k : Nat, k < t n ∧ (t n : Int) ∣ x + k * lcmT t n - c n := by
  refine lin_solve _ _ _ _ (ht n (Nat.le_refl _)) ?_
  have h : Nat.gcd (lcmT t n) (t n) ∣ (c n - x).natAbs := by
    refine gcd_lcmT_dvd t _ _ n (fun i hi => ht i (by omega)) fun i hi => ?_
    have h1 : (Nat.gcd (t i) (t n) : Int) ∣ c n - x := by
      have a := hp i hi
      rw [Nat.gcd_comm] at a
      have b := Int.dvd_trans (Int.natCast_dvd_natCast.2 (Nat.gcd_dvd_left (t i) (t n))) (hx i hi)
      have := Int.dvd_sub a b
      rw [show c n - c i - (x - c i) = c n - x by omega] at this
      exact this
    exact Int.ofNat_dvd_left.1 h1
  exact Int.ofNat_dvd_left.2 h

theorem at_teeth_later {t : Nat → Nat} {c : Nat → Int} {n : Nat} {x : Int} (k : Nat) (hx : ∀ i, i < n → (t i : Int) ∣ x - c i) : ∀ i, i < n → (t i : Int) ∣ x + k * lcmT t n - c i := fun i hi => by
  have h1 : (t i : Int) ∣ (k : Int) * (lcmT t n : Int) := Int.dvd_trans (Int.natCast_dvd_natCast.2 (dvd_lcmT t n i hi)) (Int.dvd_mul_left _ _)
  have := Int.dvd_add (hx i hi) h1
  rw [show x - c i + (k : Int) * (lcmT t n : Int) = x + (k : Int) * (lcmT t n : Int) - c i by omega] at this
  exact this

/-- Teeth that some steps put there agree two by two. -/
theorem agree_of {t : Nat → Nat} {c : Nat → Int} {x : Int} {i k : Nat} (hi : (t i : Int) ∣ x - c i) (hk : (t k : Int) ∣ x - c k) : (Nat.gcd (t i) (t k) : Int) ∣ c i - c k := by
  have a := Int.dvd_trans (Int.natCast_dvd_natCast.2 (Nat.gcd_dvd_left (t i) (t k))) hi
  have b := Int.dvd_trans (Int.natCast_dvd_natCast.2 (Nat.gcd_dvd_right (t i) (t k))) hk
  have := Int.dvd_sub b a
  rw [show x - c k - (x - c i) = c i - c k by omega] at this
  exact this

end Go.Proofs.Ytnnhjnogebicbab
