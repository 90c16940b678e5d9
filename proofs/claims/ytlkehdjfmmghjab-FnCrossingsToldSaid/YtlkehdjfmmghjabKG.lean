/- A chord is added: the model; the law. -/
import Derived.Test.YtlkehdjfmmghjabKF
namespace Go.Proofs.Ytlkehdjfmmghjab
open Go.RowKit
set_option linter.unusedVariables false

theorem srPut_new (u : Value) (xs : List (Int × Int)) (c d : Int) (B T : Nat) (w : World) (h : PairsIn 61 w B T u xs) (hT : T ≤ w.heap.size) (hn : xs.length ≤ 1000000) (ht : thereAt xs c d = false) :
    Calls Try.prog 65 #[u, .agg #[.int .i64 c, .int .i64 d]] w fun e w' => ∃ v', e = .returned v' ∧ PairsIn 61 w' w.heap.size w'.heap.size v' (putAt xs c d) ∧ Below w.heap.size w w' := by
  rcases src_form h.1 with ⟨rfl, rfl⟩ | ⟨g, cap, rfl, _, hlc, hcm⟩
  · exact srPut_nil c d w
  · refine srPut_some g cap xs c d B T w h hT hn hlc hcm fun e => ?_
    unfold thereAt at ht
    rw [decide_eq_true e] at ht
    cases ht

theorem there_at {p : Int} {xs : List (Int × Int)} (hg : goodC p xs) (c d : Int) (k : Nat) (hk : k < xs.length) (h : xs.getD k (0, 0) = (c, d)) : thereAt xs c d = true := by
  have hh : headC (c, d) xs = k := by
    refine headC_unique (c, d) xs k (by omega) (fun i hi => ?_) (fun _ => ?_)
    · rw [← h]; exact good_less hg i k hi hk
    · rw [h]
      cases e : lessC (c, d) (c, d) with
      | false => rfl
      | true => exact absurd e (lessC_irrefl _)
  unfold thereAt
  rw [hh]
  exact decide_eq_true ⟨hk, h⟩

theorem not_there {p : Int} {xs : List (Int × Int)} (hg : goodC p xs) (c d : Int) (ht : thereAt xs c d = false) (k : Nat) (hk : k < xs.length) : xs.getD k (0, 0) ≠ (c, d) := fun h => by
  rw [there_at hg c d k hk h] at ht
  cases ht

end Go.Proofs.Ytlkehdjfmmghjab
