/- ZX: KA, KB, KD, KE, KF, KG, Z2, Z3, one after the other. -/
import Derived.Test.YtbgcbokddldmkaaDoorK9
import Derived.Test.YtbgcbokddldmkaaDoorC3
import Derived.Test.YtbgcbokddldmkaaDoorBA
import Derived.Test.YtbgcbokddldmkaaDoorKC
import Derived.Test.YtbgcbokddldmkaaDoorC5
import Derived.Test.YtbgcbokddldmkaaDoorP4
import Derived.Test.YtbgcbokddldmkaaDoorW2
namespace Go.Proofs.YtbgcbokddldmkaaDoor
open Go.RowKit
set_option linter.unusedVariables false

/-- How many points farther a chord leads. -/
def lenC (p : Int) (c : Int × Int) : Int := min (c.2 - c.1) (p - (c.2 - c.1))

theorem map_take_snoc {α β : Type} (f : α → β) (xs : List α) (z : α) (k : Nat) (h : k < xs.length) : (xs.take k).map f ++ [f (xs.getD k z)] = (xs.take (k + 1)).map f := by
  rw [List.take_succ_eq_append_getElem h, List.map_append, List.getD_eq_getElem?_getD, List.getElem?_eq_getElem h]
  rfl

theorem map_range_getD {α β : Type} (f : α → β) (xs : List α) (z : α) : (List.range xs.length).map (fun i => f (xs.getD i z)) = xs.map f := by
  conv => rhs; rw [← range_getD xs z, List.map_map]
  rfl

end Go.Proofs.YtbgcbokddldmkaaDoor

namespace Go.Proofs.YtbgcbokddldmkaaDoor
open Go.RowKit
set_option linter.unusedVariables false

end Go.Proofs.YtbgcbokddldmkaaDoor

namespace Go.Proofs.YtbgcbokddldmkaaDoor
open Go.RowKit
set_option linter.unusedVariables false

end Go.Proofs.YtbgcbokddldmkaaDoor

namespace Go.Proofs.YtbgcbokddldmkaaDoor
open Go.RowKit
set_option linter.unusedVariables false

theorem headC_unique (c : Int × Int) (xs : List (Int × Int)) (i : Nat) (hi : i ≤ xs.length) (h1 : ∀ k, k < i → lessC (xs.getD k (0, 0)) c = true) (h2 : i < xs.length → lessC (xs.getD i (0, 0)) c = false) : headC c xs = i := by
  have a1 := headC_le c xs
  rcases Nat.lt_trichotomy (headC c xs) i with h | h | h
  · have := headC_stop c xs (by omega)
    rw [h1 _ h] at this
    cases this
  · exact h
  · have := headC_less c xs i h
    rw [h2 (by omega)] at this
    cases this

/-- Chords in order. -/
theorem good_less {p : Int} {xs : List (Int × Int)} (hg : goodC p xs) (i j : Nat) (hij : i < j) (hj : j < xs.length) : lessC (xs.getD i (0, 0)) (xs.getD j (0, 0)) = true := by
  induction j with
  | zero => omega
  | succ j ih =>
    have h1 := (hg.2.2 (j + 1) hj).2 (by omega)
    rw [show j + 1 - 1 = j by omega] at h1
    by_cases e : i = j
    · rw [e]; exact h1
    · exact lessC_trans (ih (by omega) (by omega)) h1

theorem less_down {p : Int} {xs : List (Int × Int)} (hg : goodC p xs) (c : Int × Int) (i j : Nat) (hij : i ≤ j) (hj : j < xs.length) (h : lessC (xs.getD j (0, 0)) c = true) : lessC (xs.getD i (0, 0)) c = true := by
  by_cases e : i = j
  · rw [e]; exact h
  · exact lessC_trans (good_less hg i j (by omega) hj) h

theorem notless_up {p : Int} {xs : List (Int × Int)} (hg : goodC p xs) (c : Int × Int) (i j : Nat) (hij : i ≤ j) (hj : j < xs.length) (h : lessC (xs.getD i (0, 0)) c = false) : lessC (xs.getD j (0, 0)) c = false := by
  cases e : lessC (xs.getD j (0, 0)) c with
  | false => rfl
  | true => rw [less_down hg c i j hij hj e] at h; cases h

/-- A chord in its place. -/
def putAt (xs : List (Int × Int)) (c d : Int) : List (Int × Int) := xs.take (headC (c, d) xs) ++ [(c, d)] ++ xs.drop (headC (c, d) xs)

def thereAt (xs : List (Int × Int)) (c d : Int) : Bool := decide (headC (c, d) xs < xs.length ∧ xs.getD (headC (c, d) xs) (0, 0) = (c, d))

end Go.Proofs.YtbgcbokddldmkaaDoor

namespace Go.Proofs.YtbgcbokddldmkaaDoor
open Go.RowKit
set_option linter.unusedVariables false

theorem heap_alloc_last_at (W : World) (o1 o2 : Obj) : ((W.alloc o1).alloc o2).heap[W.heap.size + 1]? = some o2 := heap_alloc2_new W o1 o2

end Go.Proofs.YtbgcbokddldmkaaDoor

namespace Go.Proofs.YtbgcbokddldmkaaDoor
open Go.RowKit
set_option linter.unusedVariables false

theorem srPut_new (u : Value) (xs : List (Int × Int)) (c d : Int) (B T : Nat) (w : World) (h : PairsIn 102 w B T u xs) (hT : T ≤ w.heap.size) (hn : xs.length ≤ 1000000) (ht : thereAt xs c d = false) :
    Calls Tryd.prog 165 #[u, .agg #[.int .i64 c, .int .i64 d]] w fun e w' => ∃ v', e = .returned v' ∧ PairsIn 102 w' w.heap.size w'.heap.size v' (putAt xs c d) ∧ Below w.heap.size w w' := by
  rcases src_form h.1 with ⟨rfl, rfl⟩ | ⟨g, cap, rfl, _, hlc, hcm⟩
  · exact srPut_nil c d w
  · refine srPut_some g cap xs c d B T w h hT hn hlc hcm fun e => ?_
    unfold thereAt at ht
    rw [decide_eq_true e] at ht
    cases ht

theorem there_at {p : Int} {xs : List (Int × Int)} (hg : goodC p xs) (c d : Int) (k : Nat) (hk : k < xs.length) (h : xs.getD k (0, 0) = (c, d)) : thereAt xs c d = true := by
  have hh : headC (c, d) xs = k := by
    refine headC_unique (c, d) xs k (by omega) (fun i hi => ?_) (fun _ => ?_)
    · rw [← h]; exact good_less hg i k hi hk
    · rw [h]
      cases e : lessC (c, d) (c, d) with
      | false => rfl
      | true => exact absurd e (lessC_irrefl _)
  unfold thereAt
  rw [hh]
  exact decide_eq_true ⟨hk, h⟩

theorem not_there {p : Int} {xs : List (Int × Int)} (hg : goodC p xs) (c d : Int) (ht : thereAt xs c d = false) (k : Nat) (hk : k < xs.length) : xs.getD k (0, 0) ≠ (c, d) := fun h => by
  rw [there_at hg c d k hk h] at ht
  cases ht

end Go.Proofs.YtbgcbokddldmkaaDoor

namespace Go.Proofs.YtbgcbokddldmkaaDoor
open Go.RowKit
set_option linter.unusedVariables false

theorem putC_there (xs : List (Int × Int)) (c d : Int) (h : thereAt xs c d = true) : putC xs (c, d) = xs := by
  unfold thereAt at h
  rw [decide_eq_true_eq] at h
  rw [putC_def, if_pos h]

theorem putC_new (xs : List (Int × Int)) (c d : Int) (h : thereAt xs c d = false) : putC xs (c, d) = putAt xs c d := by
  unfold thereAt at h
  rw [decide_eq_false_iff_not] at h
  rw [putC_def, if_neg h]
  rfl

theorem srPut_any (u : Value) (xs : List (Int × Int)) (c d : Int) (B T : Nat) (w : World) (h : PairsIn 102 w B T u xs) (hT : T ≤ w.heap.size) (hB : B ≤ w.heap.size) (hn : xs.length ≤ 1000000) :
    Calls Tryd.prog 165 #[u, .agg #[.int .i64 c, .int .i64 d]] w fun e w' => ∃ v', e = .returned v' ∧ PairsIn 102 w' B w'.heap.size v' (putC xs (c, d)) ∧ Below w.heap.size w w' := by
  cases ht : thereAt xs c d with
  | true =>
    have hh := ht
    unfold thereAt at hh
    rw [decide_eq_true_eq] at hh
    refine (srPut_there u xs c d B T w h hT hn hh.1 hh.2).mono fun e w' ⟨he, hb⟩ => ⟨u, he, ?_, hb⟩
    rw [putC_there xs c d ht]
    exact (h.keep (belowSame hb hT)).wider (Nat.le_refl _) (Nat.le_trans hT hb.size)
  | false =>
    refine (srPut_new u xs c d B T w h hT hn ht).mono fun e w' ⟨v', he, hp, hb⟩ => ⟨v', he, ?_, hb⟩
    rw [putC_new xs c d ht]
    exact hp.wider hB (Nat.le_refl _)

theorem linesTo_succ (p s q : Nat) : putAll [] (linesTo p s (q + 1)) = putC (putAll [] (linesTo p s q)) (lineC p s q) := by
  unfold linesTo
  rw [List.range_succ, List.map_append, List.map_singleton, putAll_snoc]

theorem linesTo_length (p s q : Nat) : (putAll [] (linesTo p s q)).length ≤ q := by
  have h := putAll_length [] (linesTo p s q)
  have e : (linesTo p s q).length = q := by simp [linesTo]
  rw [e] at h
  simpa using h

set_option maxHeartbeats 600000 in
theorem srChords_any (p s : Nat) (w : World) (h : 3 ≤ p ∧ p ≤ 60 ∧ 1 ≤ s ∧ s < p) :
    Calls Tryd.prog 151 #[.agg #[.int .i64 p, .int .i64 s]] w fun e w' => ∃ v, e = .returned v ∧ PairsIn 102 w' w.heap.size w'.heap.size v (starC p s) ∧ Below w.heap.size w w' := by
  obtain ⟨h1, h2, h3, h4⟩ := h
  go_enter Tryd.func151, Tryd.ntmps151
  go_wp2
  go_loopw [3, 4] (fun r i wr => ∃ q : Nat, q ≤ p ∧ i = .int .i64 q ∧ PairsIn 102 wr w.heap.size wr.heap.size r (putAll [] (linesTo p s q)) ∧ Below w.heap.size w wr ∧ wr.cell? ⟨w.heap.size, 0, none⟩ = some (.int .i64 p) ∧ wr.cell? ⟨w.heap.size, 1, none⟩ = some (.int .i64 s)) (fun _ i _ => p - (intOf i).toNat)
  case atStart => exact ⟨0, by omega, rfl, PairsIn.nil _ _ _ _, by go_grown, by go_simp, by go_simp⟩
  case round =>
    obtain ⟨q, hq, rfl, hI, hB, p0, p1⟩ := hrel
    have hz := hB.size
    have HI := Lib.hid hI
    clear hI
    by_cases hlt : q < p
    · have hlen := linesTo_length p s q
      have HN := Lib.hid (linesTo_succ p s q)
      have HL := Lib.hid (show lineC p s q = (min (q : Int) (((q + s) % p : Nat) : Int), max (q : Int) (((q + s) % p : Nat) : Int)) from rfl)
      obtain ⟨r, hr⟩ : ∃ r, r = (q + s) % p := ⟨_, rfl⟩
      have hrp : r < p := by rw [hr]; exact Nat.mod_lt _ (by omega)
      rw [← hr] at HL
      have hmod : ((q : Int) + (s : Int)) % (p : Int) = (r : Int) := by rw [hr]; norm_cast
      have hs0 : 0 ≤ (q : Int) + (s : Int) := by omega
      have hp0 : (0 : Int) < (p : Int) := by omega
      have hpn : ¬ (p : Int) = 0 := by omega
      clear hr
      go_wp2_with (first | (go_at_call 166; (with_reducible refine (srChord_any _ _ _).mono ?_); rintro e w1 ⟨rfl, hb1⟩; (have B1 := hB.trans (hb1.mono (by omega))); (have d0 := cellB hb1 p0); (have d1 := cellB hb1 p1); have n1 := hb1.size) | (go_at_call 165; refine (srPut_any _ _ _ _ w.heap.size _ _ (HI.out.keep (belowSame hb1 (Nat.le_refl _))) n1 (by omega) (by omega)).mono ?_; rintro e w2 ⟨v2, rfl, hp2, hb2⟩; (have B2 := B1.trans (hb2.mono (by omega))); (have e0 := cellB hb2 d0); (have e1 := cellB hb2 d1); have HP := Lib.hid hp2; clear hp2))
      go_roundw
      case rel => exact ⟨q + 1, by omega, by go_num, by rw [HN.out, HL.out]; exact HP.out, B2, e0, e1⟩
      case measure => simp [intOf]; omega
    · obtain rfl : q = p := by omega
      go_wp2
      go_ret
      exact ⟨_, rfl, HI.out, hB⟩

theorem givePairs {w w' : World} {v : Value} {xs : List (Int × Int)} (b : Bool) {B : Nat} (hI : PairsIn 102 w' B w'.heap.size v xs) (hB : w.heap.size ≤ B) (hb : Below w.heap.size w w') : Gives (PairsIn 102) w xs b (.returned (.tuple #[v, .bool b])) w' :=
  ⟨v, rfl, hI.wider hB (Nat.le_refl _), hb⟩

end Go.Proofs.YtbgcbokddldmkaaDoor

namespace Go.Proofs.YtbgcbokddldmkaaDoor
open Go.RowKit
set_option linter.unusedVariables false

theorem map_put_snoc (f : Int × Int → Int × Int) (xs : List (Int × Int)) (k : Nat) (h : k < xs.length) : putAll [] ((xs.take (k + 1)).map f) = putC (putAll [] ((xs.take k).map f)) (f (xs.getD k (0, 0))) := by
  rw [← map_take_snoc f xs (0, 0) k h, putAll_snoc]

theorem map_put_length (f : Int × Int → Int × Int) (xs : List (Int × Int)) (k : Nat) : (putAll [] ((xs.take k).map f)).length ≤ xs.length := by
  have h := putAll_length [] ((xs.take k).map f)
  have e : ((xs.take k).map f).length ≤ xs.length := by rw [List.length_map, List.length_take]; omega
  exact Nat.le_trans (by simpa only [List.length_nil, Nat.zero_add] using h) e

theorem starC_order (p s : Nat) (h : 1 ≤ s ∧ s < p) (k : Nat) (hk : k < (starC p s).length) : 0 ≤ ((starC p s).getD k (0, 0)).1 ∧ ((starC p s).getD k (0, 0)).1 < ((starC p s).getD k (0, 0)).2 ∧ ((starC p s).getD k (0, 0)).2 < p := by
  have hm : (starC p s).getD k (0, 0) ∈ starC p s := by
    rw [List.getD_eq_getElem?_getD, List.getElem?_eq_getElem hk]
    exact List.getElem_mem hk
  obtain ⟨q, hq, e⟩ := (mem_starC p s _).1 hm
  rw [← e]
  exact lineC_order p s q h.1 h.2 hq

end Go.Proofs.YtbgcbokddldmkaaDoor
