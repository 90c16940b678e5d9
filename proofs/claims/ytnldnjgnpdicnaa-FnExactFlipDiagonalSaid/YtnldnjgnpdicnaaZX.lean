/- ZX: KA, KB, KD, KE, KF, KG, Z2, Z3, one after the other. -/
import Derived.Test.YtnldnjgnpdicnaaK9
import Derived.Test.YtnldnjgnpdicnaaC3
import Derived.Test.YtnldnjgnpdicnaaBA
import Derived.Test.YtnldnjgnpdicnaaKC
import Derived.Test.YtnldnjgnpdicnaaC5
import Derived.Test.YtnldnjgnpdicnaaP4
import Derived.Test.YtnldnjgnpdicnaaW2
namespace Go.Proofs.Ytnldnjgnpdicnaa
open Go.RowKit
set_option linter.unusedVariables false

/-- How many points farther a chord leads. -/
def lenC (p : Int) (c : Int × Int) : Int := min (c.2 - c.1) (p - (c.2 - c.1))

theorem map_take_snoc {α β : Type} (f : α → β) (xs : List α) (z : α) (k : Nat) (h : k < xs.length) : (xs.take k).map f ++ [f (xs.getD k z)] = (xs.take (k + 1)).map f := by
  rw [List.take_succ_eq_append_getElem h, List.map_append, List.getD_eq_getElem?_getD, List.getElem?_eq_getElem h]
  rfl

theorem map_range_getD {α β : Type} (f : α → β) (xs : List α) (z : α) : (List.range xs.length).map (fun i => f (xs.getD i z)) = xs.map f := by
  conv => rhs; rw [← range_getD xs z, List.map_map]
  rfl

set_option maxHeartbeats 400000 in
theorem cdLength_any (p a b : Int) (w : World) (hp : p ≤ 60) (h : 0 ≤ a ∧ a < b ∧ b < p) :
    Calls Try.prog 128 #[.int .i64 p, .agg #[.int .i64 a, .int .i64 b]] w fun e w' => e = .returned (.int .i64 (lenC p (a, b))) ∧ Below w.heap.size w w' := by
  obtain ⟨h1, h2, h3⟩ := h
  have e : lenC p (a, b) = min (b - a) (p - b + a) := by unfold lenC; simp only; omega
  rw [e]
  go_enter Try.func128, Try.ntmps128
  go_wp2_with (first | (go_at_call 126; (with_reducible refine (l1Least_i _ _ _).mono ?_); rintro e w1 ⟨rfl, rfl⟩))
  go_ret
  exact ⟨rfl, by go_grown⟩

end Go.Proofs.Ytnldnjgnpdicnaa

namespace Go.Proofs.Ytnldnjgnpdicnaa
open Go.RowKit
set_option linter.unusedVariables false

end Go.Proofs.Ytnldnjgnpdicnaa

namespace Go.Proofs.Ytnldnjgnpdicnaa
open Go.RowKit
set_option linter.unusedVariables false

end Go.Proofs.Ytnldnjgnpdicnaa

namespace Go.Proofs.Ytnldnjgnpdicnaa
open Go.RowKit
set_option linter.unusedVariables false

theorem headC_unique (c : Int × Int) (xs : List (Int × Int)) (i : Nat) (hi : i ≤ xs.length) (h1 : ∀ k, k < i → lessC (xs.getD k (0, 0)) c = true) (h2 : i < xs.length → lessC (xs.getD i (0, 0)) c = false) : headC c xs = i := by
  have a1 := headC_le c xs
  rcases Nat.lt_trichotomy (headC c xs) i with h | h | h
  · have := headC_stop c xs (by omega)
    rw [h1 _ h] at this
    cases this
  · exact h
  · have := headC_less c xs i h
    rw [h2 (by omega)] at this
    cases this

/-- Chords in order. -/
theorem good_less {p : Int} {xs : List (Int × Int)} (hg : goodC p xs) (i j : Nat) (hij : i < j) (hj : j < xs.length) : lessC (xs.getD i (0, 0)) (xs.getD j (0, 0)) = true := by
  induction j with
  | zero => omega
  | succ j ih =>
    have h1 := (hg.2.2 (j + 1) hj).2 (by omega)
    rw [show j + 1 - 1 = j by omega] at h1
    by_cases e : i = j
    · rw [e]; exact h1
    · exact lessC_trans (ih (by omega) (by omega)) h1

theorem less_down {p : Int} {xs : List (Int × Int)} (hg : goodC p xs) (c : Int × Int) (i j : Nat) (hij : i ≤ j) (hj : j < xs.length) (h : lessC (xs.getD j (0, 0)) c = true) : lessC (xs.getD i (0, 0)) c = true := by
  by_cases e : i = j
  · rw [e]; exact h
  · exact lessC_trans (good_less hg i j (by omega) hj) h

theorem notless_up {p : Int} {xs : List (Int × Int)} (hg : goodC p xs) (c : Int × Int) (i j : Nat) (hij : i ≤ j) (hj : j < xs.length) (h : lessC (xs.getD i (0, 0)) c = false) : lessC (xs.getD j (0, 0)) c = false := by
  cases e : lessC (xs.getD j (0, 0)) c with
  | false => rfl
  | true => rw [less_down hg c i j hij hj e] at h; cases h

/-- A chord in its place. -/
def putAt (xs : List (Int × Int)) (c d : Int) : List (Int × Int) := xs.take (headC (c, d) xs) ++ [(c, d)] ++ xs.drop (headC (c, d) xs)

def thereAt (xs : List (Int × Int)) (c d : Int) : Bool := decide (headC (c, d) xs < xs.length ∧ xs.getD (headC (c, d) xs) (0, 0) = (c, d))

end Go.Proofs.Ytnldnjgnpdicnaa

namespace Go.Proofs.Ytnldnjgnpdicnaa
open Go.RowKit
set_option linter.unusedVariables false

theorem heap_alloc_last_at (W : World) (o1 o2 : Obj) : ((W.alloc o1).alloc o2).heap[W.heap.size + 1]? = some o2 := heap_alloc2_new W o1 o2

end Go.Proofs.Ytnldnjgnpdicnaa

namespace Go.Proofs.Ytnldnjgnpdicnaa
open Go.RowKit
set_option linter.unusedVariables false

theorem srPut_new (u : Value) (xs : List (Int × Int)) (c d : Int) (B T : Nat) (w : World) (h : PairsIn 52 w B T u xs) (hT : T ≤ w.heap.size) (hn : xs.length ≤ 1000000) (ht : thereAt xs c d = false) :
    Calls Try.prog 53 #[u, .agg #[.int .i64 c, .int .i64 d]] w fun e w' => ∃ v', e = .returned v' ∧ PairsIn 52 w' w.heap.size w'.heap.size v' (putAt xs c d) ∧ Below w.heap.size w w' := by
  rcases src_form h.1 with ⟨rfl, rfl⟩ | ⟨g, cap, rfl, _, hlc, hcm⟩
  · exact srPut_nil c d w
  · refine srPut_some g cap xs c d B T w h hT hn hlc hcm fun e => ?_
    unfold thereAt at ht
    rw [decide_eq_true e] at ht
    cases ht

theorem there_at {p : Int} {xs : List (Int × Int)} (hg : goodC p xs) (c d : Int) (k : Nat) (hk : k < xs.length) (h : xs.getD k (0, 0) = (c, d)) : thereAt xs c d = true := by
  have hh : headC (c, d) xs = k := by
    refine headC_unique (c, d) xs k (by omega) (fun i hi => ?_) (fun _ => ?_)
    · rw [← h]; exact good_less hg i k hi hk
    · rw [h]
      cases e : lessC (c, d) (c, d) with
      | false => rfl
      | true => exact absurd e (lessC_irrefl _)
  unfold thereAt
  rw [hh]
  exact decide_eq_true ⟨hk, h⟩

theorem not_there {p : Int} {xs : List (Int × Int)} (hg : goodC p xs) (c d : Int) (ht : thereAt xs c d = false) (k : Nat) (hk : k < xs.length) : xs.getD k (0, 0) ≠ (c, d) := fun h => by
  rw [there_at hg c d k hk h] at ht
  cases ht

end Go.Proofs.Ytnldnjgnpdicnaa

namespace Go.Proofs.Ytnldnjgnpdicnaa
open Go.RowKit
set_option linter.unusedVariables false

theorem putC_there (xs : List (Int × Int)) (c d : Int) (h : thereAt xs c d = true) : putC xs (c, d) = xs := by
  unfold thereAt at h
  rw [decide_eq_true_eq] at h
  rw [putC_def, if_pos h]

theorem putC_new (xs : List (Int × Int)) (c d : Int) (h : thereAt xs c d = false) : putC xs (c, d) = putAt xs c d := by
  unfold thereAt at h
  rw [decide_eq_false_iff_not] at h
  rw [putC_def, if_neg h]
  rfl

theorem srPut_any (u : Value) (xs : List (Int × Int)) (c d : Int) (B T : Nat) (w : World) (h : PairsIn 52 w B T u xs) (hT : T ≤ w.heap.size) (hB : B ≤ w.heap.size) (hn : xs.length ≤ 1000000) :
    Calls Try.prog 53 #[u, .agg #[.int .i64 c, .int .i64 d]] w fun e w' => ∃ v', e = .returned v' ∧ PairsIn 52 w' B w'.heap.size v' (putC xs (c, d)) ∧ Below w.heap.size w w' := by
  cases ht : thereAt xs c d with
  | true =>
    have hh := ht
    unfold thereAt at hh
    rw [decide_eq_true_eq] at hh
    refine (srPut_there u xs c d B T w h hT hn hh.1 hh.2).mono fun e w' ⟨he, hb⟩ => ⟨u, he, ?_, hb⟩
    rw [putC_there xs c d ht]
    exact (h.keep (belowSame hb hT)).wider (Nat.le_refl _) (Nat.le_trans hT hb.size)
  | false =>
    refine (srPut_new u xs c d B T w h hT hn ht).mono fun e w' ⟨v', he, hp, hb⟩ => ⟨v', he, ?_, hb⟩
    rw [putC_new xs c d ht]
    exact hp.wider hB (Nat.le_refl _)

theorem linesTo_succ (p s q : Nat) : putAll [] (linesTo p s (q + 1)) = putC (putAll [] (linesTo p s q)) (lineC p s q) := by
  unfold linesTo
  rw [List.range_succ, List.map_append, List.map_singleton, putAll_snoc]

theorem linesTo_length (p s q : Nat) : (putAll [] (linesTo p s q)).length ≤ q := by
  have h := putAll_length [] (linesTo p s q)
  have e : (linesTo p s q).length = q := by simp [linesTo]
  rw [e] at h
  simpa using h

set_option maxHeartbeats 600000 in
theorem srChords_any (p s : Nat) (w : World) (h : 3 ≤ p ∧ p ≤ 60 ∧ 1 ≤ s ∧ s < p) :
    Calls Try.prog 74 #[.agg #[.int .i64 p, .int .i64 s]] w fun e w' => ∃ v, e = .returned v ∧ PairsIn 52 w' w.heap.size w'.heap.size v (starC p s) ∧ Below w.heap.size w w' := by
  obtain ⟨h1, h2, h3, h4⟩ := h
  go_enter Try.func74, Try.ntmps74
  go_wp2
  go_loopw [3, 4] (fun r i wr => ∃ q : Nat, q ≤ p ∧ i = .int .i64 q ∧ PairsIn 52 wr w.heap.size wr.heap.size r (putAll [] (linesTo p s q)) ∧ Below w.heap.size w wr ∧ wr.cell? ⟨w.heap.size, 0, none⟩ = some (.int .i64 p) ∧ wr.cell? ⟨w.heap.size, 1, none⟩ = some (.int .i64 s)) (fun _ i _ => p - (intOf i).toNat)
  case atStart => exact ⟨0, by omega, rfl, PairsIn.nil _ _ _ _, by go_grown, by go_simp, by go_simp⟩
  case round =>
    obtain ⟨q, hq, rfl, hI, hB, p0, p1⟩ := hrel
    have hz := hB.size
    have HI := Lib.hid hI
    clear hI
    by_cases hlt : q < p
    · have hlen := linesTo_length p s q
      have HN := Lib.hid (linesTo_succ p s q)
      have HL := Lib.hid (show lineC p s q = (min (q : Int) (((q + s) % p : Nat) : Int), max (q : Int) (((q + s) % p : Nat) : Int)) from rfl)
      obtain ⟨r, hr⟩ : ∃ r, r = (q + s) % p := ⟨_, rfl⟩
      have hrp : r < p := by rw [hr]; exact Nat.mod_lt _ (by omega)
      rw [← hr] at HL
      have hmod : ((q : Int) + (s : Int)) % (p : Int) = (r : Int) := by rw [hr]; norm_cast
      have hs0 : 0 ≤ (q : Int) + (s : Int) := by omega
      have hp0 : (0 : Int) < (p : Int) := by omega
      have hpn : ¬ (p : Int) = 0 := by omega
      clear hr
      go_wp2_with (first | (go_at_call 93; (with_reducible refine (srChord_any _ _ _).mono ?_); rintro e w1 ⟨rfl, hb1⟩; (have B1 := hB.trans (hb1.mono (by omega))); (have d0 := cellB hb1 p0); (have d1 := cellB hb1 p1); have n1 := hb1.size) | (go_at_call 53; refine (srPut_any _ _ _ _ w.heap.size _ _ (HI.out.keep (belowSame hb1 (Nat.le_refl _))) n1 (by omega) (by omega)).mono ?_; rintro e w2 ⟨v2, rfl, hp2, hb2⟩; (have B2 := B1.trans (hb2.mono (by omega))); (have e0 := cellB hb2 d0); (have e1 := cellB hb2 d1); have HP := Lib.hid hp2; clear hp2))
      go_roundw
      case rel => exact ⟨q + 1, by omega, by go_num, by rw [HN.out, HL.out]; exact HP.out, B2, e0, e1⟩
      case measure => simp [intOf]; omega
    · obtain rfl : q = p := by omega
      go_wp2
      go_ret
      exact ⟨_, rfl, HI.out, hB⟩

theorem givePairs {w w' : World} {v : Value} {xs : List (Int × Int)} (b : Bool) {B : Nat} (hI : PairsIn 52 w' B w'.heap.size v xs) (hB : w.heap.size ≤ B) (hb : Below w.heap.size w w') : Gives (PairsIn 52) w xs b (.returned (.tuple #[v, .bool b])) w' :=
  ⟨v, rfl, hI.wider hB (Nat.le_refl _), hb⟩

set_option maxHeartbeats 400000 in
theorem sChordsOf_yes (p s : Nat) (w : World) (h : 3 ≤ p ∧ p ≤ 60 ∧ 1 ≤ s ∧ s < p) :
    Calls Try.prog 25 #[.agg #[.int .i64 p, .int .i64 s]] w (Gives (PairsIn 52) w (starC p s) true) := by
  have g : 3 ≤ (p : Int) ∧ (p : Int) ≤ 60 ∧ 1 ≤ (s : Int) ∧ (s : Int) < p := by omega
  go_enter Try.func25, Try.ntmps25
  go_wp2_with (first | (go_at_call 73; (with_reducible refine (srGood_yes _ _ _ g).mono ?_); rintro e w1 ⟨rfl, hb⟩; obtain ⟨hc, hf⟩ := bcell hb; (have hz : w.heap.size < w1.heap.size := by (have := hb.size; (try simp at this); omega)); (have hB : Below w.heap.size w w1 := by (refine Below.trans ?_ (hb.mono (by first | (simp; done) | omega | (simp; omega))); go_grown))) | (go_at_call 74; (with_reducible refine (srChords_any p s _ h).mono ?_); rintro e w2 ⟨v2, rfl, hp2, hb2⟩; have B2 := hB.trans (hb2.mono (by omega))))
  go_ret2
  exact givePairs true hp2 (by omega) B2

set_option maxHeartbeats 400000 in
theorem sChordsOf_no (p s : Int) (w : World) (h : ¬ (3 ≤ p ∧ p ≤ 60 ∧ 1 ≤ s ∧ s < p)) :
    Calls Try.prog 25 #[.agg #[.int .i64 p, .int .i64 s]] w (Gives (PairsIn 52) w [] false) := by
  go_enter Try.func25, Try.ntmps25
  go_wp2_with (first | (go_at_call 73; (with_reducible refine (srGood_no _ _ _ h).mono ?_); rintro e w1 ⟨rfl, hb⟩; obtain ⟨hc, hf⟩ := bcell hb; (have hz : w.heap.size < w1.heap.size := by (have := hb.size; (try simp at this); omega)); (have hB : Below w.heap.size w w1 := by (refine Below.trans ?_ (hb.mono (by first | (simp; done) | omega | (simp; omega))); go_grown))))
  go_ret2
  exact ⟨_, rfl, PairsIn.nil _ _ _ _, hB⟩

end Go.Proofs.Ytnldnjgnpdicnaa

namespace Go.Proofs.Ytnldnjgnpdicnaa
open Go.RowKit
set_option linter.unusedVariables false

theorem map_put_snoc (f : Int × Int → Int × Int) (xs : List (Int × Int)) (k : Nat) (h : k < xs.length) : putAll [] ((xs.take (k + 1)).map f) = putC (putAll [] ((xs.take k).map f)) (f (xs.getD k (0, 0))) := by
  rw [← map_take_snoc f xs (0, 0) k h, putAll_snoc]

theorem map_put_length (f : Int × Int → Int × Int) (xs : List (Int × Int)) (k : Nat) : (putAll [] ((xs.take k).map f)).length ≤ xs.length := by
  have h := putAll_length [] ((xs.take k).map f)
  have e : ((xs.take k).map f).length ≤ xs.length := by rw [List.length_map, List.length_take]; omega
  exact Nat.le_trans (by simpa only [List.length_nil, Nat.zero_add] using h) e

theorem starC_order (p s : Nat) (h : 1 ≤ s ∧ s < p) (k : Nat) (hk : k < (starC p s).length) : 0 ≤ ((starC p s).getD k (0, 0)).1 ∧ ((starC p s).getD k (0, 0)).1 < ((starC p s).getD k (0, 0)).2 ∧ ((starC p s).getD k (0, 0)).2 < p := by
  have hm : (starC p s).getD k (0, 0) ∈ starC p s := by
    rw [List.getD_eq_getElem?_getD, List.getElem?_eq_getElem hk]
    exact List.getElem_mem hk
  obtain ⟨q, hq, e⟩ := (mem_starC p s _).1 hm
  rw [← e]
  exact lineC_order p s q h.1 h.2 hq

set_option maxHeartbeats 1000000 in
theorem sTurnedStar_yes (p s t : Nat) (w : World) (h : 3 ≤ p ∧ p ≤ 60 ∧ 1 ≤ s ∧ s < p) (ht : t < p) :
    Calls Try.prog 38 #[.agg #[.int .i64 p, .int .i64 s], .int .i64 t] w (Gives (PairsIn 52) w (starC p s) true) := by
  have g : 3 ≤ (p : Int) ∧ (p : Int) ≤ 60 ∧ 1 ≤ (s : Int) ∧ (s : Int) < p := by omega
  have HO := Lib.hid (starC_order p s h.2.2)
  have HE := Lib.hid (starC_turned p s t (by omega) ht)
  have hll := starC_length p s
  go_enter Try.func38, Try.ntmps38
  go_wp2_with (first | (go_at_call 92; (with_reducible refine (srAsked_yes _ _ _ _ g (by omega)).mono ?_); rintro e w1 ⟨rfl, hb⟩; obtain ⟨hc, hf⟩ := bcell hb; (have hz : w.heap.size < w1.heap.size := by (have := hb.size; (try simp at this); omega)); (have hB : Below w.heap.size w w1 := by (refine Below.trans ?_ (hb.mono (by first | (simp; done) | omega | (simp; omega))); go_grown)); (have d0 := cellB hb (b := w.heap.size) (o := 0) (x := .int .i64 p) (by go_simp))) | (go_at_call 74; (with_reducible refine (srChords_any p s _ h).mono ?_); rintro e w2 ⟨v2, rfl, hp2, hb2⟩; have B2 := hB.trans (hb2.mono (by omega)); have e0 := cellB hb2 d0; obtain ⟨a1, c1, g1, rfl, ha1, hmm, hx1, hy1⟩ := hp2.pairs.view))
  obtain ⟨xs, hxs⟩ : ∃ xs, xs = starC p s := ⟨_, rfl⟩
  have HXS := Lib.hid hxs
  rw [← hxs] at ha1 hx1 hy1 HO HE hll
  have HA := Lib.hid ha1
  have X := Lib.hid hx1
  have Y := Lib.hid hy1
  have n2 := B2.size
  clear hp2 ha1 hx1 hy1 hmm hb2 hf hc
  obtain ⟨n, hnn⟩ : ∃ n, n = xs.length := ⟨_, rfl⟩
  have hnl : (starC p s).length = n := by rw [← hxs, hnn]
  rw [← hnn] at HA X Y HO hll
  have HNN := Lib.hid hnn
  have HNL := Lib.hid hnl
  clear hnn hnl hxs
  rw [HNL.out]
  go_loopw [6, 16] (fun r i wr => ∃ k : Nat, k ≤ n ∧ i = .int .i64 k ∧ PairsIn 52 wr w.heap.size wr.heap.size r (putAll [] ((xs.take k).map (turnC p t))) ∧ Below w.heap.size w wr ∧ Below w2.heap.size w2 wr ∧ wr.cell? ⟨w.heap.size, 0, none⟩ = some (.int .i64 p)) (fun _ i _ => n - (intOf i).toNat)
  case atStart => exact ⟨0, by omega, rfl, PairsIn.nil _ _ _ _, B2, Below.refl _ _, e0⟩
  case round =>
    obtain ⟨k, hk, rfl, hI, hBk, hB2k, p0⟩ := hrel
    have hzk := hBk.size
    have hz2k := hB2k.size
    have HI := Lib.hid hI
    clear hI
    by_cases hlt : k < n
    · obtain rfl := HA.out (by omega)
      obtain ⟨x, y, hxy⟩ : ∃ x y, xs.getD k (0, 0) = (x, y) := ⟨_, _, rfl⟩
      have cx : wr.cell? ⟨g1, k * 2, none⟩ = _ := (hB2k.cell (p := ⟨g1, k * 2, none⟩) (World.block_lt_of_cell? w2 _ (X.out k hlt))).trans (X.out k hlt)
      have cy : wr.cell? ⟨g1, k * 2 + 1, none⟩ = _ := (hB2k.cell (p := ⟨g1, k * 2 + 1, none⟩) (World.block_lt_of_cell? w2 _ (Y.out k hlt))).trans (Y.out k hlt)
      have hord := HO.out k hlt
      have HN := Lib.hid (map_put_snoc (turnC p t) xs k (by have := HNN.out; omega))
      have hlen := map_put_length (turnC p t) xs k
      rw [← HNN.out] at hlen
      rw [hxy] at cx cy hord HN
      simp only at cx cy hord
      obtain ⟨o1, o2, o3⟩ := hord
      obtain ⟨r1, hr1⟩ : ∃ r, r = (x + (t : Int)) % (p : Int) := ⟨_, rfl⟩
      obtain ⟨r2, hr2⟩ : ∃ r, r = (y + (t : Int)) % (p : Int) := ⟨_, rfl⟩
      have HL := Lib.hid (show turnC p t (x, y) = (min r1 r2, max r1 r2) by rw [hr1, hr2]; rfl)
      have hm1 := hr1.symm
      have hm2 := hr2.symm
      have hs1 : 0 ≤ x + (t : Int) := by omega
      have hs2 : 0 ≤ y + (t : Int) := by omega
      have hw1 : IntKind.i64.wrap (x + (t : Int)) = x + (t : Int) := by rw [IntKind.wrap_i64]; omega
      have hw2 : IntKind.i64.wrap (y + (t : Int)) = y + (t : Int) := by rw [IntKind.wrap_i64]; omega
      have hp0 : (0 : Int) < (p : Int) := by omega
      have hpn : ¬ (p : Int) = 0 := by omega
      have hpz : ¬ p = 0 := by omega
      have ht1 : Int.tmod (x + (t : Int)) (p : Int) = r1 := by rw [Int.tmod_eq_emod_of_nonneg hs1]; exact hm1
      have ht2 : Int.tmod (y + (t : Int)) (p : Int) = r2 := by rw [Int.tmod_eq_emod_of_nonneg hs2]; exact hm2
      clear hr1 hr2 hxy
      go_wp2
      go_region_held3 (fun w' => w'.cell? ⟨w.heap.size, 0, none⟩ = some (.int .i64 p) ∧ w'.cell? ⟨wr.heap.size, 0, none⟩ = some (.int .i64 x) ∧ w'.cell? ⟨wr.heap.size, 1, none⟩ = some (.int .i64 y)) (go_keep)
        (first | (go_at_call 93; (with_reducible refine (srChord_any _ _ _).mono ?_); rintro e w3 ⟨rfl, hb3⟩; (have q0 := cellB hb3 (b := w.heap.size) (o := 0) (x := .int .i64 p) (by go_simp)); (have q1 := cellB hb3 (b := wr.heap.size) (o := 0) (x := .int .i64 x) (by go_simp)); (have q2 := cellB hb3 (b := wr.heap.size) (o := 1) (x := .int .i64 y) (by go_simp)); (have hb3' : Below wr.heap.size wr w3 := Below.trans (by go_grown) (hb3.mono (by first | (simp; done) | (simp; omega)))); (have n3 := hb3'.size)) | (go_at_call 53; refine (srPut_any _ _ _ _ w.heap.size _ _ (HI.out.keep (belowSame hb3' (Nat.le_refl _))) n3 (by omega) (by omega)).mono ?_; rintro e w4 ⟨v4, rfl, hp4, hb4⟩; (have u0 := cellB hb4 q0); (have u1 := cellB hb4 q1); (have u2 := cellB hb4 q2); (have hb4' : Below wr.heap.size wr w4 := hb3'.trans (hb4.mono n3)); have HP := Lib.hid hp4; clear hp4))
      go_wp2
      go_roundw
      case rel => exact ⟨k + 1, by omega, by go_num, by rw [HN.out, HL.out]; exact HP.out, hBk.trans (hb4'.mono hzk), hB2k.trans (hb4'.mono hz2k), u0⟩
      case measure => simp [intOf]; omega
    · obtain rfl : k = n := by omega
      have HT := Lib.hid (show (putAll [] ((xs.take k).map (turnC p t))) = starC p s by rw [List.take_of_length_le (by have := HNN.out; omega), HE.out, HXS.out])
      rw [HT.out] at HI
      go_wp2
      go_ret2
      exact givePairs true HI.out (Nat.le_refl _) hBk

set_option maxHeartbeats 400000 in
theorem sTurnedStar_no (p s t : Int) (w : World) (h : ¬ ((3 ≤ p ∧ p ≤ 60 ∧ 1 ≤ s ∧ s < p) ∧ (0 ≤ t ∧ t < p))) :
    Calls Try.prog 38 #[.agg #[.int .i64 p, .int .i64 s], .int .i64 t] w (Gives (PairsIn 52) w [] false) := by
  go_enter Try.func38, Try.ntmps38
  go_wp2_with (first | (go_at_call 92; (with_reducible refine (srAsked_no _ _ _ _ h).mono ?_); rintro e w1 ⟨rfl, hb⟩; obtain ⟨hc, hf⟩ := bcell hb; (have hz : w.heap.size < w1.heap.size := by (have := hb.size; (try simp at this); omega)); (have hB : Below w.heap.size w w1 := by (refine Below.trans ?_ (hb.mono (by first | (simp; done) | omega | (simp; omega))); go_grown))))
  go_ret2
  exact ⟨_, rfl, PairsIn.nil _ _ _ _, hB⟩

end Go.Proofs.Ytnldnjgnpdicnaa
