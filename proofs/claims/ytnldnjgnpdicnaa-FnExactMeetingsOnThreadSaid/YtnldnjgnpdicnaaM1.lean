/- Plain mathematics of strings of a star: when a string is back. -/
namespace Go.Proofs.Ytnldnjgnpdicnaa

theorem dvd_step (p s i : Nat) (hp : 0 < p) : p ∣ i * s ↔ p / Nat.gcd p s ∣ i := by
  have hg : 0 < Nat.gcd p s := Nat.gcd_pos_of_pos_left s hp
  have e1 : p / Nat.gcd p s * Nat.gcd p s = p := Nat.div_mul_cancel (Nat.gcd_dvd_left p s)
  have e2 : s / Nat.gcd p s * Nat.gcd p s = s := Nat.div_mul_cancel (Nat.gcd_dvd_right p s)
  have hc : (p / Nat.gcd p s).Coprime (s / Nat.gcd p s) := Nat.coprime_div_gcd_div_gcd hg
  constructor
  · intro h
    rw [← e1] at h
    have h2 : i * s = i * (s / Nat.gcd p s) * Nat.gcd p s := by rw [Nat.mul_assoc, e2]
    rw [h2] at h
    exact hc.dvd_of_dvd_mul_right (Nat.dvd_of_mul_dvd_mul_right hg h)
  · rintro ⟨c, hc⟩
    refine ⟨c * (s / Nat.gcd p s), ?_⟩
    calc i * s = p / Nat.gcd p s * c * (s / Nat.gcd p s * Nat.gcd p s) := by rw [e2, ← hc]
      _ = (p / Nat.gcd p s * Nat.gcd p s) * (c * (s / Nat.gcd p s)) := by simp only [Nat.mul_comm, Nat.mul_left_comm]
      _ = p * (c * (s / Nat.gcd p s)) := by rw [e1]

theorem back_iff (p s k i : Nat) (hk : k < p) : (k + i * s) % p = k ↔ p / Nat.gcd p s ∣ i := by
  rw [← dvd_step p s i (by omega)]
  constructor
  · intro h
    have h1 : (k + i * s) % p = (k + 0) % p := by rw [h, Nat.add_zero, Nat.mod_eq_of_lt hk]
    exact Nat.dvd_of_mod_eq_zero (by
      have := Nat.sub_mod_eq_zero_of_mod_eq (m := k + i * s) (n := k) (k := p) (by rw [h, Nat.mod_eq_of_lt hk])
      simpa using this)
  · intro h
    rw [Nat.add_mod, Nat.mod_eq_zero_of_dvd h, Nat.add_zero, Nat.mod_mod, Nat.mod_eq_of_lt hk]

/-- The point behind i lines. -/
def atI (p s k i : Nat) : Int := ((k : Int) + (i : Int) * (s : Int)) % (p : Int)

theorem atI_nat (p s k i : Nat) : atI p s k i = (((k + i * s) % p : Nat) : Int) := by simp [atI]

theorem atI_back (p s k i : Nat) (hk : k < p) (h1 : 1 ≤ i) (h2 : i < p / Nat.gcd p s) : atI p s k i ≠ (k : Int) := by
  rw [atI_nat]
  intro h
  have h' : (k + i * s) % p = k := by omega
  exact absurd (Nat.le_of_dvd h1 ((back_iff p s k i hk).1 h')) (by omega)

theorem atI_all (p s k : Nat) (hk : k < p) : atI p s k (p / Nat.gcd p s) = (k : Int) := by
  rw [atI_nat, (back_iff p s k _ hk).2 (Nat.dvd_refl _)]

theorem atI_succ (p s k i : Nat) : (atI p s k i + (s : Int)) % (p : Int) = atI p s k (i + 1) := by
  unfold atI
  rw [Int.emod_add_emod]
  congr 1
  rw [Int.natCast_add, Int.add_mul]
  omega

theorem atI_zero (p s k : Nat) (hk : k < p) : atI p s k 0 = (k : Int) := by rw [atI_nat]; simp [Nat.mod_eq_of_lt hk]

theorem atI_bd (p s k i : Nat) (hp : 0 < p) : 0 ≤ atI p s k i ∧ atI p s k i < (p : Int) := by
  rw [atI_nat]
  have := Nat.mod_lt (k + i * s) hp
  omega

/-- The points of the string of k: n of them. -/
def strL (p s k n : Nat) : List Int := (List.range n).map fun (i : Nat) => atI p s k i

theorem strL_length (p s k n : Nat) : (strL p s k n).length = n := by simp [strL]

theorem strL_succ (p s k n : Nat) : strL p s k n ++ [atI p s k n] = strL p s k (n + 1) := by simp [strL, List.range_succ]

theorem strL_one (p s k : Nat) (hk : k < p) : strL p s k 1 = [(k : Int)] := by
  have := atI_zero p s k hk
  simp [strL, this]

end Go.Proofs.Ytnldnjgnpdicnaa
