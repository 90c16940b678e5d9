/- A chord put into a set, for seats without AddChord. -/
import Derived.Test.YtincoaebdmikbabC5
import Derived.Test.YtincoaebdmikbabP3
namespace Go.Proofs.Ytincoaebdmikbab
open Go.RowKit
set_option linter.unusedVariables false

/-- A chord in its place. -/
def putAt (xs : List (Int × Int)) (c d : Int) : List (Int × Int) := xs.take (headC (c, d) xs) ++ [(c, d)] ++ xs.drop (headC (c, d) xs)

def thereAt (xs : List (Int × Int)) (c d : Int) : Bool := decide (headC (c, d) xs < xs.length ∧ xs.getD (headC (c, d) xs) (0, 0) = (c, d))

theorem srPut_new (u : Value) (xs : List (Int × Int)) (c d : Int) (B T : Nat) (w : World) (h : PairsIn 56 w B T u xs) (hT : T ≤ w.heap.size) (hn : xs.length ≤ 1000000) (ht : thereAt xs c d = false) :
    Calls Try.prog 58 #[u, .agg #[.int .i64 c, .int .i64 d]] w fun e w' => ∃ v', e = .returned v' ∧ PairsIn 56 w' w.heap.size w'.heap.size v' (putAt xs c d) ∧ Below w.heap.size w w' := by
  rcases src_form h.1 with ⟨rfl, rfl⟩ | ⟨g, cap, rfl, _, hlc, hcm⟩
  · exact srPut_nil c d w
  · refine srPut_some g cap xs c d B T w h hT hn hlc hcm fun e => ?_
    unfold thereAt at ht
    rw [decide_eq_true e] at ht
    cases ht

theorem putC_there (xs : List (Int × Int)) (c d : Int) (h : thereAt xs c d = true) : putC xs (c, d) = xs := by
  unfold thereAt at h
  rw [decide_eq_true_eq] at h
  rw [putC_def, if_pos h]

theorem putC_new (xs : List (Int × Int)) (c d : Int) (h : thereAt xs c d = false) : putC xs (c, d) = putAt xs c d := by
  unfold thereAt at h
  rw [decide_eq_false_iff_not] at h
  rw [putC_def, if_neg h]
  rfl

theorem srPut_any (u : Value) (xs : List (Int × Int)) (c d : Int) (B T : Nat) (w : World) (h : PairsIn 56 w B T u xs) (hT : T ≤ w.heap.size) (hB : B ≤ w.heap.size) (hn : xs.length ≤ 1000000) :
    Calls Try.prog 58 #[u, .agg #[.int .i64 c, .int .i64 d]] w fun e w' => ∃ v', e = .returned v' ∧ PairsIn 56 w' B w'.heap.size v' (putC xs (c, d)) ∧ Below w.heap.size w w' := by
  cases ht : thereAt xs c d with
  | true =>
    have hh := ht
    unfold thereAt at hh
    rw [decide_eq_true_eq] at hh
    refine (srPut_there u xs c d B T w h hT hn hh.1 hh.2).mono fun e w' ⟨he, hb⟩ => ⟨u, he, ?_, hb⟩
    rw [putC_there xs c d ht]
    exact (h.keep (belowSame hb hT)).wider (Nat.le_refl _) (Nat.le_trans hT hb.size)
  | false =>
    refine (srPut_new u xs c d B T w h hT hn ht).mono fun e w' ⟨v', he, hp, hb⟩ => ⟨v', he, ?_, hb⟩
    rw [putC_new xs c d ht]
    exact hp.wider hB (Nat.le_refl _)

end Go.Proofs.Ytincoaebdmikbab
