/- The model's turned stars, and its crossings on a chord. -/
import Derived.Test.YtpliaenpencocabZ2
import Derived.Test.YtpliaenpencocabKA
import Derived.Test.YtpliaenpencocabW2
namespace Go.Proofs.Ytpliaenpencocab
open Go.RowKit
set_option linter.unusedVariables false

theorem map_put_snoc (f : Int × Int → Int × Int) (xs : List (Int × Int)) (k : Nat) (h : k < xs.length) : putAll [] ((xs.take (k + 1)).map f) = putC (putAll [] ((xs.take k).map f)) (f (xs.getD k (0, 0))) := by
  rw [← map_take_snoc f xs (0, 0) k h, putAll_snoc]

theorem map_put_length (f : Int × Int → Int × Int) (xs : List (Int × Int)) (k : Nat) : (putAll [] ((xs.take k).map f)).length ≤ xs.length := by
  have h := putAll_length [] ((xs.take k).map f)
  have e : ((xs.take k).map f).length ≤ xs.length := by rw [List.length_map, List.length_take]; omega
  exact Nat.le_trans (by simpa only [List.length_nil, Nat.zero_add] using h) e

theorem starC_order (p s : Nat) (h : 1 ≤ s ∧ s < p) (k : Nat) (hk : k < (starC p s).length) : 0 ≤ ((starC p s).getD k (0, 0)).1 ∧ ((starC p s).getD k (0, 0)).1 < ((starC p s).getD k (0, 0)).2 ∧ ((starC p s).getD k (0, 0)).2 < p := by
  have hm : (starC p s).getD k (0, 0) ∈ starC p s := by
    rw [List.getD_eq_getElem?_getD, List.getElem?_eq_getElem hk]
    exact List.getElem_mem hk
  obtain ⟨q, hq, e⟩ := (mem_starC p s _).1 hm
  rw [← e]
  exact lineC_order p s q h.1 h.2 hq

end Go.Proofs.Ytpliaenpencocab
