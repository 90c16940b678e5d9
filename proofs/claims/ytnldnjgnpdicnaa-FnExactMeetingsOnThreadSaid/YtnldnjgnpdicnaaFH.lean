/- The highest thread at a place: what it is, and that there is just one such. -/
import Derived.Test.YtnldnjgnpdicnaaU2
import Derived.Test.YtnldnjgnpdicnaaUG
import Derived.Test.YtnldnjgnpdicnaaES
namespace Go.Proofs.Ytnldnjgnpdicnaa
open Go.RowKit
set_option linter.unusedVariables false

theorem le_trans_frac {n1 d1 n2 d2 n3 d3 : Nat} (h2 : 0 < d2) (a : n1 * d2 ≤ n2 * d1) (b : n2 * d3 ≤ n3 * d2) : n1 * d3 ≤ n3 * d1 := by
  refine Nat.le_of_mul_le_mul_right (c := d2) ?_ h2
  calc n1 * d3 * d2 = n1 * d2 * d3 := Nat.mul_right_comm ..
    _ ≤ n2 * d1 * d3 := Nat.mul_le_mul_right _ a
    _ = n2 * d3 * d1 := Nat.mul_right_comm ..
    _ ≤ n3 * d2 * d1 := Nat.mul_le_mul_right _ b
    _ = n3 * d1 * d2 := Nat.mul_right_comm ..

theorem low_prod (n1 d1 n2 d2 : Nat) (h1 : 1 ≤ d1) (h2 : 1 ≤ d2) : ∃ g, 0 < g ∧ n1 * d2 = lowA n1 d1 * lowB n2 d2 * g ∧ n2 * d1 = lowA n2 d2 * lowB n1 d1 * g := by
  obtain ⟨g, x, y, _, g1, hx, hy, en, ed, _⟩ := low_letters n1 d1 h1
  obtain ⟨g', x', y', _, g1', hx', hy', en', ed', _⟩ := low_letters n2 d2 h2
  refine ⟨g * g', Nat.mul_pos g1 g1', ?_, ?_⟩
  · rw [hx, hy', en, ed']; ac_rfl
  · rw [hx', hy, en', ed]; ac_rfl

theorem low_le (n1 d1 n2 d2 : Nat) (h1 : 1 ≤ d1) (h2 : 1 ≤ d2) : n1 * d2 ≤ n2 * d1 ↔ lowA n1 d1 * lowB n2 d2 ≤ lowA n2 d2 * lowB n1 d1 := by
  obtain ⟨g, g1, e1, e2⟩ := low_prod n1 d1 n2 d2 h1 h2
  rw [e1, e2]
  exact ⟨fun h => Nat.le_of_mul_le_mul_right h g1, fun h => Nat.mul_le_mul_right _ h⟩

theorem low_coprime (n d : Nat) (hd : 1 ≤ d) : Nat.Coprime (lowA n d) (lowB n d) :=
  Nat.coprime_div_gcd_div_gcd (Nat.gcd_pos_of_pos_right _ hd)

theorem low_eq (n1 d1 n2 d2 : Nat) (h1 : 1 ≤ d1) (h2 : 1 ≤ d2) : (lowA n1 d1 = lowA n2 d2 ∧ lowB n1 d1 = lowB n2 d2) ↔ n1 * d2 = n2 * d1 := by
  obtain ⟨g, g1, e1, e2⟩ := low_prod n1 d1 n2 d2 h1 h2
  have c1 := low_coprime n1 d1 h1
  have c2 := low_coprime n2 d2 h2
  constructor
  · rintro ⟨a, b⟩
    rw [e1, e2, a, b]
  · intro h
    rw [e1, e2] at h
    have h' := Nat.eq_of_mul_eq_mul_right g1 h
    refine ⟨Nat.dvd_antisymm ?_ ?_, Nat.dvd_antisymm ?_ ?_⟩
    · exact c1.dvd_of_dvd_mul_right (h' ▸ Nat.dvd_mul_right _ _)
    · exact c2.dvd_of_dvd_mul_right (h'.symm ▸ Nat.dvd_mul_right _ _)
    · exact c1.symm.dvd_of_dvd_mul_left (h'.symm ▸ Nat.dvd_mul_left _ _)
    · exact c2.symm.dvd_of_dvd_mul_left (h' ▸ Nat.dvd_mul_left _ _)

/-- The thread k has a point at x. -/
def reachP (xs : List (Int × Int)) (x : Int) (k : Nat) : Bool := decide (x ≤ (xs.getD k (0, 0)).1)

/-- Numerator and denominator of the height of thread k at x. -/
def hN (xs : List (Int × Int)) (x : Int) (k : Nat) : Nat := hgt (xs.getD k (0, 0)).1 (xs.getD k (0, 0)).2 x
def hD (xs : List (Int × Int)) (k : Nat) : Nat := (xs.getD k (0, 0)).1.toNat

def leH (xs : List (Int × Int)) (x : Int) (i j : Nat) : Prop := hN xs x i * hD xs j ≤ hN xs x j * hD xs i

instance (xs : List (Int × Int)) (x : Int) (i j : Nat) : Decidable (leH xs x i j) := by unfold leH; infer_instance

/-- Thread b is the first one of the highest ones at x below k. -/
def BestTo (xs : List (Int × Int)) (x : Int) (k b : Nat) : Prop :=
  b < k ∧ reachP xs x b = true ∧ ∀ j, j < k → reachP xs x j = true → leH xs x j b ∧ (j < b → ¬ leH xs x b j)

theorem hD_pos {xs : List (Int × Int)} (hg : goodT xs) (k : Nat) (hk : k < xs.length) : 1 ≤ hD xs k := by
  have := hg.at k hk
  unfold hD
  have := this.1.1
  omega

theorem hD_le {xs : List (Int × Int)} (hg : goodT xs) (k : Nat) (hk : k < xs.length) : hD xs k ≤ 100 := by
  have := hg.at k hk
  unfold hD
  have := this.1.2
  omega

theorem hN_le {xs : List (Int × Int)} (hg : goodT xs) (x : Int) (h0 : 0 ≤ x) (k : Nat) (hk : k < xs.length) (hr : reachP xs x k = true) : hN xs x k ≤ 10000 := by
  obtain ⟨m, _, hm, _, hm1, _⟩ := hgt_letters _ _ x (hg.at k hk) ⟨h0, of_decide_eq_true hr⟩
  unfold hN
  omega

theorem leH_trans {xs : List (Int × Int)} (hg : goodT xs) (x : Int) {i j k : Nat} (hj : j < xs.length) (a : leH xs x i j) (b : leH xs x j k) : leH xs x i k :=
  le_trans_frac (hD_pos hg j hj) a b

theorem leH_total (xs : List (Int × Int)) (x : Int) (i j : Nat) : leH xs x i j ∨ leH xs x j i := by
  unfold leH; omega

theorem leH_refl (xs : List (Int × Int)) (x : Int) (i : Nat) : leH xs x i i := Nat.le_refl _

/-- One more thread that is higher than all before it. -/
theorem BestTo.up {xs : List (Int × Int)} (hg : goodT xs) {x : Int} {k b : Nat} (h : BestTo xs x k b) (hk : k < xs.length) (hr : reachP xs x k = true) (hn : ¬ leH xs x k b) : BestTo xs x (k + 1) k := by
  obtain ⟨h1, h2, h3⟩ := h
  have hbk : leH xs x b k := (leH_total xs x k b).resolve_left hn
  refine ⟨by omega, hr, fun j hj hrj => ?_⟩
  by_cases e : j = k
  · subst e
    exact ⟨leH_refl _ _ _, fun h => by omega⟩
  · have hjb := (h3 j (by omega) hrj).1
    exact ⟨leH_trans hg x (by omega) hjb hbk, fun _ hkj => hn (leH_trans hg x (by omega) hkj hjb)⟩

theorem BestTo.stay {xs : List (Int × Int)} {x : Int} {k b : Nat} (h : BestTo xs x k b) (hn : reachP xs x k = true → leH xs x k b) : BestTo xs x (k + 1) b := by
  obtain ⟨h1, h2, h3⟩ := h
  refine ⟨by omega, h2, fun j hj hrj => ?_⟩
  by_cases e : j = k
  · subst e
    exact ⟨hn hrj, fun h => by omega⟩
  · exact h3 j (by omega) hrj

theorem BestTo.first {xs : List (Int × Int)} {x : Int} {k : Nat} (h : ∀ j, j < k → reachP xs x j = false) (hr : reachP xs x k = true) : BestTo xs x (k + 1) k := by
  refine ⟨by omega, hr, fun j hj hrj => ?_⟩
  by_cases e : j = k
  · subst e
    exact ⟨leH_refl _ _ _, fun h => by omega⟩
  · rw [h j (by omega)] at hrj
    cases hrj

theorem BestTo.unique {xs : List (Int × Int)} {x : Int} {k b c : Nat} (h : BestTo xs x k b) (g : BestTo xs x k c) : b = c := by
  rcases Nat.lt_trichotomy b c with e | e | e
  · exact absurd (h.2.2 c g.1 g.2.1).1 ((g.2.2 b h.1 h.2.1).2 e)
  · exact e
  · exact absurd (g.2.2 b h.1 h.2.1).1 ((h.2.2 c g.1 g.2.1).2 e)

theorem best_or {xs : List (Int × Int)} (hg : goodT xs) (x : Int) : ∀ k, k ≤ xs.length → (∀ j, j < k → reachP xs x j = false) ∨ ∃ b, BestTo xs x k b
  | 0, _ => .inl fun j hj => by omega
  | k + 1, hk => by
    cases hr : reachP xs x k with
    | false =>
      rcases best_or hg x k (by omega) with h | ⟨b, h⟩
      · refine .inl fun j hj => ?_
        by_cases e : j = k
        · rw [e]; exact hr
        · exact h j (by omega)
      · exact .inr ⟨b, h.stay fun e => by rw [hr] at e; cases e⟩
    | true =>
      rcases best_or hg x k (by omega) with h | ⟨b, h⟩
      · exact .inr ⟨k, BestTo.first h hr⟩
      · by_cases hn : leH xs x k b
        · exact .inr ⟨b, h.stay fun _ => hn⟩
        · exact .inr ⟨k, h.up hg (by omega) hr hn⟩

/-- The indices of the threads that have a point at x. -/
def rchL (xs : List (Int × Int)) (x : Int) : List Nat := (List.range xs.length).filter (reachP xs x)

theorem rch_sel (xs : List (Int × Int)) (x : Int) : selT (reachP xs x) xs.length = (rchL xs x).map fun (i : Nat) => (i : Int) := rfl

theorem rch_mem (xs : List (Int × Int)) (x : Int) (k : Nat) : k ∈ rchL xs x ↔ k < xs.length ∧ reachP xs x k = true := by
  unfold rchL
  rw [List.mem_filter, List.mem_range]

theorem rch_at (xs : List (Int × Int)) (x : Int) (i : Nat) (h : i < (rchL xs x).length) : (rchL xs x).getD i 0 < xs.length ∧ reachP xs x ((rchL xs x).getD i 0) = true := by
  rw [List.getD_eq_getElem?_getD, List.getElem?_eq_getElem h]
  exact (rch_mem xs x _).1 (List.getElem_mem h)

theorem rch_less (xs : List (Int × Int)) (x : Int) (i j : Nat) (hij : i < j) (hj : j < (rchL xs x).length) : (rchL xs x).getD i 0 < (rchL xs x).getD j 0 := by
  have hp : (rchL xs x).Pairwise (· < ·) := List.Pairwise.filter _ List.pairwise_lt_range
  have := List.pairwise_iff_getElem.1 hp i j (by omega) hj hij
  rwa [List.getD_eq_getElem?_getD, List.getElem?_eq_getElem (by omega), List.getD_eq_getElem?_getD, List.getElem?_eq_getElem hj]

theorem rch_place (xs : List (Int × Int)) (x : Int) (b : Nat) (h : b < xs.length) (hr : reachP xs x b = true) : ∃ p, p < (rchL xs x).length ∧ (rchL xs x).getD p 0 = b := by
  obtain ⟨p, hp, e⟩ := List.getElem_of_mem ((rch_mem xs x b).2 ⟨h, hr⟩)
  exact ⟨p, hp, by rw [List.getD_eq_getElem?_getD, List.getElem?_eq_getElem hp]; exact e⟩

theorem rch_none (xs : List (Int × Int)) (x : Int) (h : ∀ j, j < xs.length → reachP xs x j = false) : rchL xs x = [] := by
  unfold rchL
  rw [List.filter_eq_nil_iff]
  intro k hk
  rw [h k (List.mem_range.1 hk)]
  simp

theorem rch_len (xs : List (Int × Int)) (x : Int) : (rchL xs x).length ≤ xs.length := by
  have := List.length_filter_le (reachP xs x) (List.range xs.length)
  rwa [List.length_range] at this

end Go.Proofs.Ytnldnjgnpdicnaa
