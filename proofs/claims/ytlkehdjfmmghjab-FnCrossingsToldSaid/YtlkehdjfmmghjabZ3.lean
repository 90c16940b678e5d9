/- The model's turned stars, and its crossings on a chord. -/
import Derived.Test.YtlkehdjfmmghjabZ2
import Derived.Test.YtlkehdjfmmghjabKA
import Derived.Test.YtlkehdjfmmghjabW2
namespace Go.Proofs.Ytlkehdjfmmghjab
open Go.RowKit
set_option linter.unusedVariables false

theorem map_put_snoc (f : Int × Int → Int × Int) (xs : List (Int × Int)) (k : Nat) (h : k < xs.length) : putAll [] ((xs.take (k + 1)).map f) = putC (putAll [] ((xs.take k).map f)) (f (xs.getD k (0, 0))) := by
  rw [← map_take_snoc f xs (0, 0) k h, putAll_snoc]

theorem map_put_length (f : Int × Int → Int × Int) (xs : List (Int × Int)) (k : Nat) : (putAll [] ((xs.take k).map f)).length ≤ xs.length := by
  have h := putAll_length [] ((xs.take k).map f)
  have e : ((xs.take k).map f).length ≤ xs.length := by rw [List.length_map, List.length_take]; omega
  exact Nat.le_trans (by simpa only [List.length_nil, Nat.zero_add] using h) e

theorem starC_order (p s : Nat) (h : 1 ≤ s ∧ s < p) (k : Nat) (hk : k < (starC p s).length) : 0 ≤ ((starC p s).getD k (0, 0)).1 ∧ ((starC p s).getD k (0, 0)).1 < ((starC p s).getD k (0, 0)).2 ∧ ((starC p s).getD k (0, 0)).2 < p := by
  have hm : (starC p s).getD k (0, 0) ∈ starC p s := by
    rw [List.getD_eq_getElem?_getD, List.getElem?_eq_getElem hk]
    exact List.getElem_mem hk
  obtain ⟨q, hq, e⟩ := (mem_starC p s _).1 hm
  rw [← e]
  exact lineC_order p s q h.1 h.2 hq

set_option maxHeartbeats 1000000 in
theorem sTurnedStar_yes (p s t : Nat) (w : World) (h : 3 ≤ p ∧ p ≤ 60 ∧ 1 ≤ s ∧ s < p) (ht : t < p) :
    Calls Try.prog 50 #[.agg #[.int .i64 p, .int .i64 s], .int .i64 t] w (Gives (PairsIn 61) w (starC p s) true) := by
  have g : 3 ≤ (p : Int) ∧ (p : Int) ≤ 60 ∧ 1 ≤ (s : Int) ∧ (s : Int) < p := by omega
  have HO := Lib.hid (starC_order p s h.2.2)
  have HE := Lib.hid (starC_turned p s t (by omega) ht)
  have hll := starC_length p s
  go_enter Try.func50, Try.ntmps50
  go_wp2_with (first | (go_at_call 106; (with_reducible refine (srAsked_yes _ _ _ _ g (by omega)).mono ?_); rintro e w1 ⟨rfl, hb⟩; obtain ⟨hc, hf⟩ := bcell hb; (have hz : w.heap.size < w1.heap.size := by (have := hb.size; (try simp at this); omega)); (have hB : Below w.heap.size w w1 := by (refine Below.trans ?_ (hb.mono (by first | (simp; done) | omega | (simp; omega))); go_grown)); (have d0 := cellB hb (b := w.heap.size) (o := 0) (x := .int .i64 p) (by go_simp))) | (go_at_call 90; (with_reducible refine (srChords_any p s _ h).mono ?_); rintro e w2 ⟨v2, rfl, hp2, hb2⟩; have B2 := hB.trans (hb2.mono (by omega)); have e0 := cellB hb2 d0; obtain ⟨a1, c1, g1, rfl, ha1, hmm, hx1, hy1⟩ := hp2.pairs.view))
  obtain ⟨xs, hxs⟩ : ∃ xs, xs = starC p s := ⟨_, rfl⟩
  have HXS := Lib.hid hxs
  rw [← hxs] at ha1 hx1 hy1 HO HE hll
  have HA := Lib.hid ha1
  have X := Lib.hid hx1
  have Y := Lib.hid hy1
  have n2 := B2.size
  clear hp2 ha1 hx1 hy1 hmm hb2 hf hc
  obtain ⟨n, hnn⟩ : ∃ n, n = xs.length := ⟨_, rfl⟩
  have hnl : (starC p s).length = n := by rw [← hxs, hnn]
  rw [← hnn] at HA X Y HO hll
  have HNN := Lib.hid hnn
  have HNL := Lib.hid hnl
  clear hnn hnl hxs
  rw [HNL.out]
  go_loopw [6, 16] (fun r i wr => ∃ k : Nat, k ≤ n ∧ i = .int .i64 k ∧ PairsIn 61 wr w.heap.size wr.heap.size r (putAll [] ((xs.take k).map (turnC p t))) ∧ Below w.heap.size w wr ∧ Below w2.heap.size w2 wr ∧ wr.cell? ⟨w.heap.size, 0, none⟩ = some (.int .i64 p)) (fun _ i _ => n - (intOf i).toNat)
  case atStart => exact ⟨0, by omega, rfl, PairsIn.nil _ _ _ _, B2, Below.refl _ _, e0⟩
  case round =>
    obtain ⟨k, hk, rfl, hI, hBk, hB2k, p0⟩ := hrel
    have hzk := hBk.size
    have hz2k := hB2k.size
    have HI := Lib.hid hI
    clear hI
    by_cases hlt : k < n
    · obtain rfl := HA.out (by omega)
      obtain ⟨x, y, hxy⟩ : ∃ x y, xs.getD k (0, 0) = (x, y) := ⟨_, _, rfl⟩
      have cx : wr.cell? ⟨g1, k * 2, none⟩ = _ := (hB2k.cell (p := ⟨g1, k * 2, none⟩) (World.block_lt_of_cell? w2 _ (X.out k hlt))).trans (X.out k hlt)
      have cy : wr.cell? ⟨g1, k * 2 + 1, none⟩ = _ := (hB2k.cell (p := ⟨g1, k * 2 + 1, none⟩) (World.block_lt_of_cell? w2 _ (Y.out k hlt))).trans (Y.out k hlt)
      have hord := HO.out k hlt
      have HN := Lib.hid (map_put_snoc (turnC p t) xs k (by have := HNN.out; omega))
      have hlen := map_put_length (turnC p t) xs k
      rw [← HNN.out] at hlen
      rw [hxy] at cx cy hord HN
      simp only at cx cy hord
      obtain ⟨o1, o2, o3⟩ := hord
      obtain ⟨r1, hr1⟩ : ∃ r, r = (x + (t : Int)) % (p : Int) := ⟨_, rfl⟩
      obtain ⟨r2, hr2⟩ : ∃ r, r = (y + (t : Int)) % (p : Int) := ⟨_, rfl⟩
      have HL := Lib.hid (show turnC p t (x, y) = (min r1 r2, max r1 r2) by rw [hr1, hr2]; rfl)
      have hm1 := hr1.symm
      have hm2 := hr2.symm
      have hs1 : 0 ≤ x + (t : Int) := by omega
      have hs2 : 0 ≤ y + (t : Int) := by omega
      have hw1 : IntKind.i64.wrap (x + (t : Int)) = x + (t : Int) := by rw [IntKind.wrap_i64]; omega
      have hw2 : IntKind.i64.wrap (y + (t : Int)) = y + (t : Int) := by rw [IntKind.wrap_i64]; omega
      have hp0 : (0 : Int) < (p : Int) := by omega
      have hpn : ¬ (p : Int) = 0 := by omega
      have hpz : ¬ p = 0 := by omega
      have ht1 : Int.tmod (x + (t : Int)) (p : Int) = r1 := by rw [Int.tmod_eq_emod_of_nonneg hs1]; exact hm1
      have ht2 : Int.tmod (y + (t : Int)) (p : Int) = r2 := by rw [Int.tmod_eq_emod_of_nonneg hs2]; exact hm2
      clear hr1 hr2 hxy
      go_wp2
      go_region_held3 (fun w' => w'.cell? ⟨w.heap.size, 0, none⟩ = some (.int .i64 p) ∧ w'.cell? ⟨wr.heap.size, 0, none⟩ = some (.int .i64 x) ∧ w'.cell? ⟨wr.heap.size, 1, none⟩ = some (.int .i64 y)) (go_keep)
        (first | (go_at_call 107; (with_reducible refine (srChord_any _ _ _).mono ?_); rintro e w3 ⟨rfl, hb3⟩; (have q0 := cellB hb3 (b := w.heap.size) (o := 0) (x := .int .i64 p) (by go_simp)); (have q1 := cellB hb3 (b := wr.heap.size) (o := 0) (x := .int .i64 x) (by go_simp)); (have q2 := cellB hb3 (b := wr.heap.size) (o := 1) (x := .int .i64 y) (by go_simp)); (have hb3' : Below wr.heap.size wr w3 := Below.trans (by go_grown) (hb3.mono (by first | (simp; done) | (simp; omega)))); (have n3 := hb3'.size)) | (go_at_call 65; refine (srPut_any _ _ _ _ w.heap.size _ _ (HI.out.keep (belowSame hb3' (Nat.le_refl _))) n3 (by omega) (by omega)).mono ?_; rintro e w4 ⟨v4, rfl, hp4, hb4⟩; (have u0 := cellB hb4 q0); (have u1 := cellB hb4 q1); (have u2 := cellB hb4 q2); (have hb4' : Below wr.heap.size wr w4 := hb3'.trans (hb4.mono n3)); have HP := Lib.hid hp4; clear hp4))
      go_wp2
      go_roundw
      case rel => exact ⟨k + 1, by omega, by go_num, by rw [HN.out, HL.out]; exact HP.out, hBk.trans (hb4'.mono hzk), hB2k.trans (hb4'.mono hz2k), u0⟩
      case measure => simp [intOf]; omega
    · obtain rfl : k = n := by omega
      have HT := Lib.hid (show (putAll [] ((xs.take k).map (turnC p t))) = starC p s by rw [List.take_of_length_le (by have := HNN.out; omega), HE.out, HXS.out])
      rw [HT.out] at HI
      go_wp2
      go_ret2
      exact givePairs true HI.out (Nat.le_refl _) hBk

set_option maxHeartbeats 400000 in
theorem sTurnedStar_no (p s t : Int) (w : World) (h : ¬ ((3 ≤ p ∧ p ≤ 60 ∧ 1 ≤ s ∧ s < p) ∧ (0 ≤ t ∧ t < p))) :
    Calls Try.prog 50 #[.agg #[.int .i64 p, .int .i64 s], .int .i64 t] w (Gives (PairsIn 61) w [] false) := by
  go_enter Try.func50, Try.ntmps50
  go_wp2_with (first | (go_at_call 106; (with_reducible refine (srAsked_no _ _ _ _ h).mono ?_); rintro e w1 ⟨rfl, hb⟩; obtain ⟨hc, hf⟩ := bcell hb; (have hz : w.heap.size < w1.heap.size := by (have := hb.size; (try simp at this); omega)); (have hB : Below w.heap.size w w1 := by (refine Below.trans ?_ (hb.mono (by first | (simp; done) | omega | (simp; omega))); go_grown))))
  go_ret2
  exact ⟨_, rfl, PairsIn.nil _ _ _ _, hB⟩

end Go.Proofs.Ytlkehdjfmmghjab
