/- Least common multiples of a list, as they are reckoned step by step. Nothing of the program. -/
import Derived.Test.YtnnhjnogebicbabEN
namespace Go.Proofs.Ytnnhjnogebicbab

/-- The teeth of wheel i. -/
def tn (xs : List Int) (i : Nat) : Nat := (xs.getD i 0).toNat

/-- At most six wheels of 1 to 300 teeth. -/
def Wheels (xs : List Int) : Prop := xs.length ≤ 6 ∧ ∀ i, i < xs.length → 1 ≤ xs.getD i 0 ∧ xs.getD i 0 ≤ 300

theorem Wheels.tn {xs : List Int} (h : Wheels xs) {i : Nat} (hi : i < xs.length) : ((tn xs i : Nat) : Int) = xs.getD i 0 ∧ 1 ≤ tn xs i ∧ tn xs i ≤ 300 := by
  have := h.2 i hi
  unfold Go.Proofs.Ytnnhjnogebicbab.tn
  omega

/-- Behind how many steps the wheels are as at first. -/
def perT (xs : List Int) : Nat → Nat := lcmT (tn xs)

theorem perT_zero (xs : List Int) : perT xs 0 = 1 := rfl

theorem perT_succ (xs : List Int) (n : Nat) : perT xs (n + 1) = Nat.lcm (perT xs n) (tn xs n) := rfl

theorem lcm_quo (P t : Nat) : P * (t / Nat.gcd P t) = Nat.lcm P t := by
  rw [Nat.lcm, Nat.mul_div_assoc P (Nat.gcd_dvd_right P t)]

theorem quo_lcm (P t : Nat) : P / Nat.gcd P t * t = Nat.lcm P t := by
  rw [Nat.lcm, Nat.mul_comm P t, Nat.mul_div_assoc t (Nat.gcd_dvd_left P t), Nat.mul_comm]

theorem perT_pos {xs : List Int} (h : Wheels xs) (n : Nat) (hn : n ≤ xs.length) : 1 ≤ perT xs n :=
  lcmT_pos _ n fun i hi => (h.tn (by omega)).2.1

theorem perT_pow {xs : List Int} (h : Wheels xs) : ∀ n, n ≤ xs.length → perT xs n ≤ 300 ^ n
  | 0, _ => Nat.le_refl _
  | n + 1, hn => by
    have ih := perT_pow h n (by omega)
    have h1 := (h.tn (i := n) (by omega)).2
    have hp := perT_pos h n (by omega)
    have : Nat.lcm (perT xs n) (tn xs n) ≤ perT xs n * tn xs n := Nat.le_of_dvd (Nat.mul_pos hp h1.1) (Nat.lcm_dvd (Nat.dvd_mul_right _ _) (Nat.dvd_mul_left _ _))
    rw [perT_succ, Nat.pow_succ]
    exact Nat.le_trans this (Nat.mul_le_mul ih h1.2)

theorem perT_bd {xs : List Int} (h : Wheels xs) (n : Nat) (hn : n ≤ xs.length) : perT xs n ≤ 729000000000000 :=
  Nat.le_trans (perT_pow h n hn) (Nat.le_trans (Nat.pow_le_pow_right (by omega) (Nat.le_trans hn h.1)) (by decide))

theorem perT_up {xs : List Int} (h : Wheels xs) : ∀ (n m : Nat), n ≤ m → m ≤ xs.length → perT xs n ≤ perT xs m := by
  intro n m hnm hm
  refine Nat.le_of_dvd (perT_pos h m hm) ?_
  exact lcmT_dvd _ _ n fun i hi => dvd_lcmT _ m i (by omega)

/-- The first wheel's teeth divide the period. -/
theorem perT_first {xs : List Int} (h : 1 ≤ xs.length) : tn xs 0 ∣ perT xs xs.length := dvd_lcmT _ _ 0 h

/-- One round of each program, in letters. -/
theorem per_round {xs : List Int} (h : Wheels xs) (n : Nat) (hn : n < xs.length) :
    ∃ P t g q p R : Nat, perT xs n = P ∧ tn xs n = t ∧ Nat.gcd P t = g ∧ t / g = q ∧ P / g = p ∧ perT xs (n + 1) = R ∧ P * q = R ∧ p * t = R ∧ 1 ≤ P ∧ P ≤ 729000000000000 ∧ 1 ≤ t ∧ t ≤ 300 ∧ 1 ≤ g ∧ g ≤ 300 ∧ 1 ≤ q ∧ q ≤ 300 ∧ 1 ≤ p ∧ p ≤ P ∧ 1 ≤ R ∧ R ≤ 729000000000000 ∧ xs.getD n 0 = (t : Int) := by
  have h1 := h.tn hn
  have g1 : 1 ≤ Nat.gcd (perT xs n) (tn xs n) := Nat.gcd_pos_of_pos_right _ (by omega)
  have g2 : Nat.gcd (perT xs n) (tn xs n) ≤ tn xs n := Nat.gcd_le_right _ (by omega)
  have p1 := perT_pos h n (by omega)
  have g3 : Nat.gcd (perT xs n) (tn xs n) ≤ perT xs n := Nat.gcd_le_left _ (by omega)
  refine ⟨_, _, _, _, _, _, rfl, rfl, rfl, rfl, rfl, rfl, lcm_quo _ _, quo_lcm _ _, p1, perT_bd h n (by omega), by omega, by omega, g1, by omega, ?_, ?_, ?_, Nat.div_le_self _ _, perT_pos h _ (by omega), perT_bd h _ (by omega), h1.1.symm⟩
  · exact (Nat.one_le_div_iff (by omega)).2 g2
  · exact Nat.le_trans (Nat.div_le_self _ _) (by omega)
  · exact (Nat.one_le_div_iff (by omega)).2 g3

end Go.Proofs.Ytnnhjnogebicbab
