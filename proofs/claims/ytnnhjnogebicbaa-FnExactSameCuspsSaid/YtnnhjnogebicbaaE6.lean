/- Gears: which teeth are cusps, as marks. -/
import Derived.Test.YtnnhjnogebicbaaE5
import Derived.Test.YtnnhjnogebicbaaEN
import Derived.Test.YtnnhjnogebicbaaBB
namespace Go.Proofs.Ytnnhjnogebicbaa
open Go.RowKit
set_option linter.unusedVariables false

/-- The numbers below 300 of which something is told, as marks. -/
def markT (c : Nat → Bool) : List Bool := (List.range 300).map c

theorem markT_length (c : Nat → Bool) : (markT c).length = 300 := by simp [markT]

theorem markT_none : markT (fun _ => false) = List.replicate 300 false := by
  unfold markT
  rw [List.map_const', List.length_range]

theorem markT_set (c : Nat → Bool) (m : Nat) : (markT c).set m true = markT (fun j => c j || j == m) := by
  refine List.ext_getElem? fun i => ?_
  unfold markT
  rw [List.getElem?_set, List.getElem?_map, List.getElem?_map]
  by_cases h3 : i < 300
  · rw [List.getElem?_range h3]
    by_cases h : m = i
    · subst h; simp [h3]
    · have : (i == m) = false := by rw [beq_eq_false_iff_ne]; omega
      simp [h, this]
  · have e : (List.range 300)[i]? = none := List.getElem?_eq_none (by simp; omega)
    rw [e]
    by_cases h : m = i
    · subst h; simp [h3]
    · simp [h]

theorem markT_inj {c d : Nat → Bool} : markT c = markT d ↔ ∀ j, j < 300 → c j = d j := by
  constructor
  · intro h j hj
    have := congrArg (fun l => l[j]?) h
    simpa [markT, List.getElem?_map, List.getElem?_range hj] using this
  · intro h
    unfold markT
    exact List.map_congr_left fun j hj => h j (List.mem_range.1 hj)

/-- Whether a tooth is one of the first cusps. -/
def cuspC (r k i j : Nat) : Bool := (List.range i).any fun t => t * k % r == j

theorem cuspC_zero (r k : Nat) : cuspC r k 0 = fun _ => false := by funext j; rfl

theorem cuspC_succ (r k i : Nat) : cuspC r k (i + 1) = fun j => cuspC r k i j || j == i * k % r := by
  funext j
  simp only [cuspC, List.range_succ, List.any_append, List.any_cons, List.any_nil, Bool.or_false]
  congr 1
  rw [Bool.eq_iff_iff, beq_iff_eq, beq_iff_eq]
  exact ⟨fun h => h.symm, fun h => h.symm⟩

theorem cuspC_iff (r k i j : Nat) : cuspC r k i j = true ↔ ∃ t, t < i ∧ t * k % r = j := by
  simp [cuspC, List.any_eq_true]

theorem cusp_marks {r k g a b : Nat} (H : Gear r k g a b) (j : Nat) : cuspC r k a j = true ↔ j < r ∧ g ∣ j := by
  obtain ⟨h, hg, g1, g2, b1, c1, a1, e1, e2, e3, e4, hr, hk, hab⟩ := H
  rw [cuspC_iff]
  constructor
  · rintro ⟨t, ht, rfl⟩
    refine ⟨Nat.mod_lt _ (by omega), ?_⟩
    have d1 : g ∣ r := ⟨a, hr⟩
    have d2 : g ∣ t * k := Nat.dvd_trans ⟨b, hk⟩ (Nat.dvd_mul_left k t)
    exact (Nat.dvd_mod_iff d1).2 d2
  · rintro ⟨hj, c, rfl⟩
    have hc : c < a := Nat.lt_of_mul_lt_mul_left (a := g) (by rw [← hr]; exact hj)
    obtain ⟨i, hi, hic⟩ := coprime_hits a b c (by omega) hab hc
    refine ⟨i, hi, ?_⟩
    rw [hk, hr, Nat.mul_left_comm, Nat.mul_mod_mul_left, hic]

theorem same_marks {r k g a b k' g' a' b' : Nat} (H : Gear r k g a b) (H' : Gear r k' g' a' b') : markT (cuspC r k a) = markT (cuspC r k' a') ↔ g = g' := by
  rw [markT_inj]
  have gr : ∀ {k g a b : Nat}, Gear r k g a b → g < r ∧ 1 ≤ g := fun {k g a b} H => by
    obtain ⟨h, hg, g1, g2, b1, c1, a1, e1, e2, e3, e4, hr, hk, hab⟩ := H
    refine ⟨?_, g1⟩
    have : g * 1 ≤ g * b := Nat.mul_le_mul_left g b1
    omega
  have r3 : r ≤ 300 := by have := H.1; omega
  constructor
  · intro h
    apply Nat.dvd_antisymm
    · have h1 := h g' (by have := gr H'; omega)
      exact ((cusp_marks H g').1 (h1.trans ((cusp_marks H' g').2 ⟨(gr H').1, Nat.dvd_refl _⟩))).2
    · have h1 := h g (by have := gr H; omega)
      exact ((cusp_marks H' g).1 (h1.symm.trans ((cusp_marks H g).2 ⟨(gr H).1, Nat.dvd_refl _⟩))).2
  · rintro rfl j _
    rw [Bool.eq_iff_iff, cusp_marks H, cusp_marks H']

end Go.Proofs.Ytnnhjnogebicbaa
