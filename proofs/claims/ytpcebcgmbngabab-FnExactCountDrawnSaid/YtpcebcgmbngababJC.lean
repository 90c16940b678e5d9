/- Counts of loops. Nothing of the program. -/
import Derived.Test.YtpcebcgmbngababB1
namespace Go.Proofs.Ytpcebcgmbngabab

/-- 1 times 3 times 5 and so on. -/
def oddP : Nat → Nat
  | 0 => 1
  | k + 1 => oddP k * (2 * k + 1)

/-- (m + 1) times (m + 2) and so on, k factors. -/
def risP (m : Nat) : Nat → Nat
  | 0 => 1
  | k + 1 => risP m k * (m + k + 1)

/-- In how many ways a loop ends. -/
def waysN (o l : Nat) : Nat := oddP l * risP (2 * l) o

theorem risP_shift (m : Nat) : ∀ k, risP m (k + 1) = (m + 1) * risP (m + 1) k
  | 0 => by simp [risP]
  | k + 1 => by
    rw [risP, risP_shift m k, risP, Nat.mul_assoc]
    congr 2
    omega

theorem oddP_pos : ∀ k, 0 < oddP k
  | 0 => by simp [oddP]
  | k + 1 => Nat.mul_pos (oddP_pos k) (by omega)

theorem risP_pos (m : Nat) : ∀ k, 0 < risP m k
  | 0 => by simp [risP]
  | k + 1 => Nat.mul_pos (risP_pos m k) (by omega)

theorem waysN_pos (o l : Nat) : 0 < waysN o l := Nat.mul_pos (oddP_pos l) (risP_pos _ o)

theorem waysN_zero : waysN 0 0 = 1 := rfl

theorem waysN_open (o : Nat) : waysN (o + 1) 0 = (o + 1) * waysN o 0 := by
  simp [waysN, risP, oddP, Nat.mul_comm]

theorem waysN_left (l : Nat) : waysN 0 (l + 1) = waysN 1 l := by
  simp [waysN, risP, oddP]

theorem waysN_both (o l : Nat) : waysN (o + 1) (l + 1) = (o + 1) * waysN o (l + 1) + waysN (o + 2) l := by
  unfold waysN
  rw [risP_shift (2 * l) (o + 1), risP_shift (2 * l + 1) o]
  have e1 : oddP (l + 1) = oddP l * (2 * l + 1) := rfl
  have e2 : risP (2 * (l + 1)) (o + 1) = risP (2 * (l + 1)) o * (2 * (l + 1) + o + 1) := rfl
  rw [e1, e2, show 2 * l + 1 + 1 = 2 * (l + 1) by omega]
  generalize risP (2 * (l + 1)) o = r
  generalize oddP l = d
  have e3 : ∀ a s : Nat, a * r * ((o + 1) + s) = (o + 1) * (a * r) + a * (s * r) := by
    intro a s
    rw [Nat.mul_add, Nat.mul_comm (a * r) (o + 1), Nat.mul_assoc a r s, Nat.mul_comm r s]
  rw [← Nat.mul_assoc d (2 * l + 1) (2 * (l + 1) * r), ← e3]
  rw [Nat.mul_assoc (d * (2 * l + 1)) r]
  rw [show 2 * (l + 1) + o + 1 = o + 1 + 2 * (l + 1) by omega, Nat.mul_assoc]

/-- The recursion of the model. -/
theorem waysN_step (o l : Nat) (h : ¬ (o = 0 ∧ l = 0)) : waysN o l = (if 0 < o then o * waysN (o - 1) l else 0) + (if 0 < l then waysN (o + 1) (l - 1) else 0) := by
  cases o with
  | zero =>
    cases l with
    | zero => exact absurd ⟨rfl, rfl⟩ h
    | succ l => simp [waysN_left]
  | succ o =>
    cases l with
    | zero => simp [waysN_open]
    | succ l => simp [waysN_both]

theorem waysN_few : ∀ o l : Fin 10, o.1 + l.1 ≤ 9 → waysN o.1 l.1 ≤ 34459425 := by decide +kernel

theorem waysN_le (o l : Nat) (h : o + l ≤ 9) : waysN o l ≤ 34459425 := waysN_few ⟨o, by omega⟩ ⟨l, by omega⟩ h

theorem oddP_le (l : Nat) (h : l ≤ 9) : oddP l ≤ 34459425 := by
  have := waysN_le 0 l (by omega)
  simpa [waysN, risP] using this

end Go.Proofs.Ytpcebcgmbngabab
