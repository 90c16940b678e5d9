/- Chords in order: lists with the same chords are the same. Nothing of the program. -/
import Derived.Test.YtlkehdjfmmghjabP2
namespace Go.Proofs.Ytlkehdjfmmghjab

theorem lessC_iff (x y : Int × Int) : lessC x y = true ↔ x.1 < y.1 ∨ (x.1 = y.1 ∧ x.2 < y.2) := by simp [lessC]

theorem lessC_irrefl (x : Int × Int) : ¬ lessC x x = true := by rw [lessC_iff]; omega

theorem lessC_trans {x y z : Int × Int} (h : lessC x y = true) (g : lessC y z = true) : lessC x z = true := by
  rw [lessC_iff] at *; omega

theorem lessC_total (x y : Int × Int) : lessC x y = true ∨ x = y ∨ lessC y x = true := by
  obtain ⟨a, b⟩ := x
  obtain ⟨c, d⟩ := y
  rw [lessC_iff, lessC_iff, Prod.mk.injEq]
  simp only
  omega

/-- Each pair comes before all those behind it. -/
def SortedC (xs : List (Int × Int)) : Prop := xs.Pairwise fun x y => lessC x y = true

theorem SortedC.ext {xs ys : List (Int × Int)} (h : SortedC xs) (g : SortedC ys) (e : ∀ x, x ∈ xs ↔ x ∈ ys) : xs = ys := by
  induction xs generalizing ys with
  | nil =>
    cases ys with
    | nil => rfl
    | cons y r => exact absurd ((e y).2 List.mem_cons_self) (by simp)
  | cons x r ih =>
    cases ys with
    | nil => exact absurd ((e x).1 List.mem_cons_self) (by simp)
    | cons y s =>
      have h1 := List.pairwise_cons.1 h
      have g1 := List.pairwise_cons.1 g
      have hxy : x = y := by
        rcases List.mem_cons.1 ((e x).1 List.mem_cons_self) with hx | hx
        · exact hx
        · rcases List.mem_cons.1 ((e y).2 List.mem_cons_self) with hy | hy
          · exact hy.symm
          · exact absurd (lessC_trans (h1.1 y hy) (g1.1 x hx)) (lessC_irrefl x)
      subst hxy
      rw [ih h1.2 g1.2 fun z => ?_]
      constructor
      · intro hz
        rcases List.mem_cons.1 ((e z).1 (List.mem_cons_of_mem _ hz)) with hh | hh
        · subst hh; exact absurd (h1.1 z hz) (lessC_irrefl z)
        · exact hh
      · intro hz
        rcases List.mem_cons.1 ((e z).2 (List.mem_cons_of_mem _ hz)) with hh | hh
        · subst hh; exact absurd (g1.1 z hz) (lessC_irrefl z)
        · exact hh

/-- One more is put in, in its place. -/
def insC (c : Int × Int) : List (Int × Int) → List (Int × Int)
  | [] => [c]
  | x :: r => if lessC x c then x :: insC c r else if x = c then x :: r else c :: x :: r

theorem headC_cons (c x : Int × Int) (r : List (Int × Int)) : headC c (x :: r) = if lessC x c then headC c r + 1 else 0 := rfl

theorem putC_def (xs : List (Int × Int)) (c : Int × Int) : putC xs c = if headC c xs < xs.length ∧ xs.getD (headC c xs) (0, 0) = c then xs else xs.take (headC c xs) ++ [c] ++ xs.drop (headC c xs) := rfl

theorem putC_ins (xs : List (Int × Int)) (c : Int × Int) : putC xs c = insC c xs := by
  induction xs with
  | nil => simp [putC, headC, insC]
  | cons x r ih =>
    rw [putC_def, headC_cons]
    unfold insC
    by_cases hx : lessC x c = true
    · rw [if_pos hx, if_pos hx, ← ih, putC_def]
      by_cases h : headC c r < r.length ∧ r.getD (headC c r) (0, 0) = c
      · rw [if_pos h, if_pos (by simpa using h)]
      · rw [if_neg h, if_neg (by simpa using h)]
        simp
    · rw [if_neg hx, if_neg hx]
      by_cases h : x = c
      · simp [h]
      · simp [h]

theorem mem_insC (c : Int × Int) (xs : List (Int × Int)) (x : Int × Int) : x ∈ insC c xs ↔ x = c ∨ x ∈ xs := by
  induction xs with
  | nil => simp [insC]
  | cons y r ih =>
    unfold insC
    split
    · simp [ih]; constructor <;> (intro h; rcases h with h | h | h <;> simp [h])
    · split
      · rename_i h; subst h; simp
      · simp

theorem SortedC.ins {xs : List (Int × Int)} (h : SortedC xs) (c : Int × Int) : SortedC (insC c xs) := by
  induction xs with
  | nil => simp [insC, SortedC]
  | cons y r ih =>
    have h1 := List.pairwise_cons.1 h
    unfold insC
    split
    · rename_i hy
      refine List.pairwise_cons.2 ⟨fun z hz => ?_, ih h1.2⟩
      rcases (mem_insC c r z).1 hz with rfl | hz
      · exact hy
      · exact h1.1 z hz
    · rename_i hy
      split
      · exact h
      · rename_i hne
        have hcy : lessC c y = true := by
          rcases lessC_total y c with h2 | h2 | h2
          · exact absurd h2 hy
          · exact absurd h2 hne
          · exact h2
        refine List.pairwise_cons.2 ⟨fun z hz => ?_, h⟩
        rcases List.mem_cons.1 hz with rfl | hz
        · exact hcy
        · exact lessC_trans hcy (h1.1 z hz)

/-- All of them are put in, one after the other. -/
def putAll (xs cs : List (Int × Int)) : List (Int × Int) := cs.foldl putC xs

theorem putAll_snoc (xs cs : List (Int × Int)) (c : Int × Int) : putAll xs (cs ++ [c]) = putC (putAll xs cs) c := by simp [putAll]

theorem putAll_sorted (xs cs : List (Int × Int)) (h : SortedC xs) : SortedC (putAll xs cs) := by
  induction cs generalizing xs with
  | nil => exact h
  | cons c r ih => exact ih _ (by rw [putC_ins]; exact h.ins c)

theorem mem_putAll (xs cs : List (Int × Int)) (x : Int × Int) : x ∈ putAll xs cs ↔ x ∈ xs ∨ x ∈ cs := by
  induction cs generalizing xs with
  | nil => simp [putAll]
  | cons c r ih =>
    have e : putAll xs (c :: r) = putAll (putC xs c) r := rfl
    rw [e, ih, putC_ins, mem_insC, List.mem_cons]
    constructor
    · rintro ((h | h) | h) <;> simp [h]
    · rintro (h | h | h) <;> simp [h]

theorem sortedC_nil : SortedC [] := List.Pairwise.nil

theorem putAll_length (xs cs : List (Int × Int)) : (putAll xs cs).length ≤ xs.length + cs.length := by
  induction cs generalizing xs with
  | nil => simp [putAll]
  | cons c r ih =>
    have e : putAll xs (c :: r) = putAll (putC xs c) r := rfl
    have h1 := ih (putC xs c)
    have h2 := putC_length xs c
    rw [e, List.length_cons]
    omega

end Go.Proofs.Ytlkehdjfmmghjab
