/- Plane pairings in order: the one with a rank, and the rank of one: the mathematics. Nothing of the program. -/
import Derived.Test.YtenkokkhdcjcaabM2
import Derived.Test.YtenkokkhdcjcaabP1
namespace Go.Proofs.Ytenkokkhdcjcaab
set_option linter.unusedVariables false

/-- How many chords are under the first one in the pairing with a rank: at most k. -/
def undTo (n r : Nat) : Nat → Nat
  | 0 => 0
  | k + 1 => if catSum n (k + 1) ≤ r then k + 1 else undTo n r k

theorem undTo_eq (n r u : Nat) (h1 : catSum n u ≤ r) (h2 : r < catSum n (u + 1)) : ∀ k, u ≤ k → undTo n r k = u := by
  intro k
  induction k with
  | zero => intro h; rw [Nat.le_zero.1 h]; rfl
  | succ k ih =>
    intro h
    by_cases e : u = k + 1
    · subst e
      simp [undTo, h1]
    · have h3 := catSum_mono n (u + 1) (k + 1) (by omega)
      rw [undTo, if_neg (by omega)]
      exact ih (by omega)

/-- The plane pairing of n chords with a rank, of the points from a first one on. -/
def ofRank : Nat → Nat → Nat → Nat → List (Int × Int)
  | 0, _, _, _ => []
  | f + 1, a, n, r => if n = 0 then [] else
      ((a : Int), ((a + 2 * undTo n r n + 1 : Nat) : Int)) :: (ofRank f (a + 1) (undTo n r n) ((r - catSum n (undTo n r n)) / cat (n - 1 - undTo n r n)) ++
        ofRank f (a + 2 * undTo n r n + 2) (n - 1 - undTo n r n) ((r - catSum n (undTo n r n)) % cat (n - 1 - undTo n r n)))

theorem ofRank_zero (f a r : Nat) : ofRank f a 0 r = [] := by cases f <;> simp [ofRank]

theorem ofRank_step (f a n r u : Nat) (hn : 0 < n) (h1 : catSum n u ≤ r) (h2 : r < catSum n (u + 1)) (hu : u ≤ n) :
    ofRank (f + 1) a n r = ((a : Int), ((a + 2 * u + 1 : Nat) : Int)) :: (ofRank f (a + 1) u ((r - catSum n u) / cat (n - 1 - u)) ++ ofRank f (a + 2 * u + 2) (n - 1 - u) ((r - catSum n u) % cat (n - 1 - u))) := by
  have e := undTo_eq n r u h1 h2 n hu
  rw [ofRank, if_neg (by omega), e]

theorem ofRank_length (f : Nat) : ∀ a n r, n < 16 → n ≤ f → r < cat n → (ofRank f a n r).length = n := by
  induction f with
  | zero => intro a n r _ h _; rw [Nat.le_zero.1 h]; rfl
  | succ f ih =>
    intro a n r h16 hn hr
    by_cases h0 : n = 0
    · subst h0; rw [ofRank_zero]; rfl
    · obtain ⟨u, hu, h1, h2⟩ : ∃ u, u < n ∧ catSum n u ≤ r ∧ r < catSum n (u + 1) := by
        have hall := catSum_all n h16 (by omega)
        have : ∀ k, k ≤ n → r < catSum n k → ∃ u, u < k ∧ catSum n u ≤ r ∧ r < catSum n (u + 1) := by
          intro k
          induction k with
          | zero => intro _ h; simp [catSum] at h
          | succ k ihk =>
            intro hk h
            by_cases e : r < catSum n k
            · obtain ⟨u, a1, a2, a3⟩ := ihk (by omega) e
              exact ⟨u, by omega, a2, a3⟩
            · exact ⟨k, by omega, by omega, h⟩
        exact this n (Nat.le_refl _) (by omega)
      have hb := cat_le (n - 1 - u) (by omega)
      have hs : catSum n (u + 1) = catSum n u + cat u * cat (n - 1 - u) := rfl
      have hd : (r - catSum n u) / cat (n - 1 - u) < cat u := (Nat.div_lt_iff_lt_mul (by omega)).2 (by omega)
      have hm : (r - catSum n u) % cat (n - 1 - u) < cat (n - 1 - u) := Nat.mod_lt _ (by omega)
      rw [ofRank_step f a n r u (by omega) h1 h2 (by omega), List.length_cons, List.length_append, ih _ _ _ (by omega) (by omega) hd, ih _ _ _ (by omega) (by omega) hm]
      omega

end Go.Proofs.Ytenkokkhdcjcaab
