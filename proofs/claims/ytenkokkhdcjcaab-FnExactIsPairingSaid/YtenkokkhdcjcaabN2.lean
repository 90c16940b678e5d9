/- Maps with points for keys; how many different points there are. -/
import Derived.Test.YtenkokkhdcjcaabN1
import Derived.Test.YtenkokkhdcjcaabK7
import Derived.Maps.OwnSet
namespace Go.Proofs.Ytenkokkhdcjcaab
open Go.RowKit Go.Maps
set_option linter.unusedVariables false

theorem keyI : Keyed Try.prog 3 := int_keyed Try.underlying3

noncomputable abbrev elemI : Value → Option (DataW Unit × List MemPlace) := plainElem Try.prog 4

theorem elemI_mk (b : Bool) : elemI (.bool b) = some (.lit (.bool b), []) := plainElem_bool Try.underlying4 b

/-- Block b is a map of at most n entries whose keys are the points E, all of them below p. -/
def SetI (w : World) (b n p : Nat) (E : List Int) : Prop :=
  ∃ D, w.ownsMap Try.prog 3 elemI b n D ∧ Maps.size D = diffs p E ∧ (∀ a : Int, has D (.int .i64 a) = true ↔ a ∈ E)

theorem SetI.keep {w w' : World} {b n p : Nat} {E : List Int} (h : SetI w b n p E) (hb : w'.heap[b]? = w.heap[b]?) : SetI w' b n p E := by
  obtain ⟨D, ⟨es, clock, hm, r⟩, h2⟩ := h
  exact ⟨D, ⟨es, clock, hb.trans hm, r⟩, h2⟩

theorem SetI.lt {w : World} {b n p : Nat} {E : List Int} (h : SetI w b n p E) : b < w.heap.size := by
  obtain ⟨D, h1, _⟩ := h
  exact h1.lt

theorem SetI.made (w : World) (p : Nat) : SetI (w.alloc (.map #[] 0)) w.heap.size 0 p [] :=
  ⟨_, World.ownsMap_made w _ _ _, by rw [diffs_nil]; rfl, fun a => by simp [has_eq]⟩

theorem keyI_of (a : Int) (h : (Lit.int .i64 a).wf = true) : keyOf Try.prog 3 (.int .i64 a) = some (.int .i64 a) := keyOf_int_mk Try.underlying3 h

/-- 'm[a] = true' -/
theorem SetI.put {w w' : World} {b n p : Nat} {E : List Int} {D : DataW Unit} {a : Int} {d : DataW Unit} (hD : w.ownsMap Try.prog 3 elemI b n D) (hs : Maps.size D = diffs p E)
    (h1 : ∀ a : Int, has D (.int .i64 a) = true ↔ a ∈ E) (h0 : 0 ≤ a) (hp : a < p) (hk : (Lit.int .i64 a).wf = true) (h : w'.ownsMap Try.prog 3 elemI b (n + 1) (D.put (.int .i64 a) d)) : SetI w' b (n + 1) p (E ++ [a]) := by
  have key := keyI.key (keyI_of a hk)
  refine ⟨_, h, ?_, fun x => ?_⟩
  · rw [size_put (hD.tidy keyI), diffs_snoc p E a h0 hp, hs]
    by_cases e : a ∈ E
    · rw [if_pos ((h1 a).2 e), if_pos e, Nat.add_zero]
    · have : ¬ has D (.int .i64 a) = true := fun h => e ((h1 a).1 h)
      rw [if_neg this, if_neg e]
  · by_cases e : x = a
    · subst e
      rw [has_put_same hD.isMap key]
      simp
    · rw [has_put_other (show Lit.int .i64 x ≠ Lit.int .i64 a from fun e' => e (by injection e')), h1 x]
      simp [e]

theorem flat_snoc (xs : List (Int × Int)) (k : Nat) (h : k < xs.length) (x y : Int) (hxy : xs.getD k (0, 0) = (x, y)) : flatP (xs.take (k + 1)) = flatP (xs.take k) ++ [x] ++ [y] := by
  rw [List.take_succ_eq_append_getElem h, flatP_append]
  rw [List.getD_eq_getElem?_getD, List.getElem?_eq_getElem h] at hxy
  simp only [Option.getD_some] at hxy
  rw [hxy]
  simp [flatP]

theorem good_points {p : Nat} {xs : List (Int × Int)} (h : goodC p xs) : ∀ a ∈ flatP xs, 0 ≤ a ∧ a < p := by
  have h2 := h.2.2
  clear h
  have h3 : ∀ c ∈ xs, 0 ≤ c.1 ∧ c.1 < c.2 ∧ c.2 < p := by
    intro c hc
    obtain ⟨k, hk, rfl⟩ := List.getElem_of_mem hc
    have := (h2 k hk).1
    rw [List.getD_eq_getElem?_getD, List.getElem?_eq_getElem hk] at this
    exact this
  clear h2
  induction xs with
  | nil => simp [flatP]
  | cons c r ih =>
    intro a ha
    have hc := h3 c (by simp)
    simp only [flatP, List.mem_cons] at ha
    rcases ha with rfl | rfl | ha
    · omega
    · omega
    · exact ih (fun d hd => h3 d (by simp [hd])) a ha

end Go.Proofs.Ytenkokkhdcjcaab
