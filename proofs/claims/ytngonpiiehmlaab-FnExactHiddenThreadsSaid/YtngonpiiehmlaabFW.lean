/- Hidden threads: the model. -/
import Derived.Test.YtngonpiiehmlaabFV
import Derived.Deep.RegionHeld3
namespace Go.Proofs.Ytngonpiiehmlaab
open Go.RowKit
set_option linter.unusedVariables false

/-- The first n places' points are under the others. -/
def qT (r : List (Int × Int)) (a b : Int) : Nat → Bool
  | 0 => true
  | n + 1 => qT r a b n && decide (hgt a b (n : Int) / a.toNat < colT (n : Int) r)

theorem qT_iff (r : List (Int × Int)) (a b : Int) : ∀ n, qT r a b n = true ↔ ∀ t : Nat, t < n → hgt a b (t : Int) / a.toNat < colT (t : Int) r
  | 0 => ⟨fun _ t ht => by omega, fun _ => rfl⟩
  | n + 1 => by
    rw [qT, Bool.and_eq_true, qT_iff r a b n, decide_eq_true_eq]
    constructor
    · rintro ⟨h1, h2⟩ t ht
      by_cases e : t = n
      · rw [e]; exact h2
      · exact h1 t (by omega)
    · exact fun h => ⟨fun t ht => h t (by omega), h n (by omega)⟩

theorem hid_q {xs : List (Int × Int)} (hg : goodT xs) (k : Nat) (hk : k < xs.length) (a b : Int) (hab : xs.getD k (0, 0) = (a, b)) (n : Nat) (hn : (n : Int) ≤ a + 1) (h : ¬ (n : Int) ≤ a ∨ qT (restT xs k) a b n = false) :
    hidT xs k = qT (restT xs k) a b n := by
  rw [Bool.eq_iff_iff, hidT_iff hg k hk a b hab, qT_iff]
  constructor
  · exact fun h t ht => h t (by omega)
  · intro hq t ht
    rcases h with h | h
    · exact hq t (by omega)
    · rw [(qT_iff _ _ _ _).2 hq] at h
      cases h

theorem info_threadH : (Try.prog.info? 55).map (fun i => (i.zero, i.size, i.bytes)) = some (some (.agg #[.int .i64 0, .int .i64 0]), 2, 16) := by kernel_rfl

set_option maxHeartbeats 4000000 in
theorem sHiddenThreads_yes (u : Value) (xs : List (Int × Int)) (B T : Nat) (w : World) (h : PairsIn 55 w B T u xs) (hT : T ≤ w.heap.size) (hg : goodT xs) (h2 : xs.length ≠ 1) :
    Calls Try.prog 27 #[u] w (Gives (IntsIn 3) w (selT (hidT xs) xs.length) true) := by
  have HG := Lib.hid hg
  have H2 := Lib.hid h2
  have HU := Lib.hid h
  have hn30 : xs.length ≤ 30 := hg.1.2
  have hn1 : 1 ≤ xs.length := hg.1.1
  have hne : ((xs.length : Int) == 1) = false := beq_eq_false_iff_ne.2 (by omega)
  have hS := h.1.src
  obtain ⟨hlen, ⟨rfl, hn0⟩ | ⟨g, cap, cur, rfl, hB0, hg0, hncap, hcm, _, _⟩⟩ := h.1
  · omega
  unfold maxLen at hcm
  have HS := Lib.hid hS
  clear h hg h2 hS hlen hg0
  go_enter Try.func27, Try.ntmps27
  go_wp2_with (first | (go_at_call 35; (with_reducible refine (sgGood_yes _ _ B T _ HU.out HG.out).mono ?_); rintro e w0 ⟨rfl, hb0⟩))
  go_loopw [4, 21] (fun c i wr => ∃ k : Nat, k ≤ xs.length ∧ i = .int .i64 k ∧ Ints wr w.heap.size 3 c (selT (hidT xs) k) ∧ Below w.heap.size w wr) (fun _ i _ => xs.length - (intOf i).toNat)
  case atStart => exact ⟨0, by omega, rfl, World.ownsRow_nil _ _ _ _, hb0⟩
  case round =>
    obtain ⟨wo, rfl⟩ : ∃ z, z = wr := ⟨wr, rfl⟩
    obtain ⟨k, hk, rfl, hI, hB⟩ := hrel
    have hz := hB.size
    by_cases hlt : k < xs.length
    · obtain ⟨a', b, hab⟩ : ∃ a b, xs.getD k (0, 0) = (a, b) := ⟨_, _, rfl⟩
      have hT' := HG.out.at k hlt
      rw [hab] at hT'
      obtain ⟨a, rfl⟩ : ∃ a : Nat, a' = (a : Int) := ⟨a'.toNat, by have := hT'.1.1; simp only at this; omega⟩
      have HUr := Lib.hid (HU.out.keep (belowSame hB hT))
      obtain ⟨e0, e1⟩ := elem_cells HUr.out k hlt a b hab
      have a1 : 1 ≤ a := by have := hT'.1.1; simp only at this; omega
      have a2 : a ≤ 100 := by have := hT'.1.2; simp only at this; omega
      have b1 : 1 ≤ b := hT'.2.1
      have b2 : b ≤ 100 := hT'.2.2
      have HAB := Lib.hid hab
      have HTT := Lib.hid hT'
      have HGR := Lib.hid (goodT_rest HG.out k hlt H2.out)
      have hk0 : 0 ≤ (k : Int) := by omega
      have hkl : (k : Int) < (xs.length : Int) := by omega
      have hk1 : (k : Int) ≤ (cap : Int) := by omega
      have hk2 : (k : Int) + 1 ≤ (xs.length : Int) := by omega
      have hk3 : (xs.length : Int) ≤ (cap : Int) := by omega
      obtain ⟨k1, hk5⟩ : ∃ k1, k1 = k + 1 := ⟨_, rfl⟩
      have hwk : IntKind.i64.wrap ((k : Int) + 1) = (k1 : Int) := by rw [IntKind.wrap_i64]; omega
      have hk6 : (k1 : Int) ≤ (xs.length : Int) := by omega
      have hR : [] ++ xs.take k ++ xs.drop k1 = restT xs k := by rw [hk5]; simp [restT]
      have hlen2 := selT_length (hidT xs) k
      have HI := Lib.hid hI
      have HK5 := Lib.hid hk5
      have HR := Lib.hid hR
      clear hab hT' hk5 hR hI
      go_wp2
      obtain ⟨W, hW⟩ : ∃ W, W = wo.alloc (.cells #[.int .i64 (a : Int), .int .i64 b] 55) := ⟨_, rfl⟩
      have hBW : Below wo.heap.size wo W := by rw [hW]; go_grown
      have v0 : W.cell? ⟨wo.heap.size, 0, none⟩ = some (.int .i64 (a : Int)) := by rw [hW]; go_simp
      have v1 : W.cell? ⟨wo.heap.size, 1, none⟩ = some (.int .i64 b) := by rw [hW]; go_simp
      have hzW : wo.heap.size < W.heap.size := by rw [hW]; simp
      have HSW := Lib.hid (HS.out.later (hB.trans (hBW.mono hz)))
      have HIW := Lib.hid (HI.out.later hBW)
      have hBW2 := hB.trans (hBW.mono hz)
      rw [← hW]
      clear hW e0 e1 hBW
      refine wp_region_held_drew (S := fun w' => Below W.heap.size W w') (by kernel_rfl) (by (try dsimp only); go_grown) (fun hHeld => ?_)
      refine wpAnyH_take (i := 1) (v := ?v39) rfl (by kernel_rfl) (by kernel_rfl) (by kernel_rfl) (fun _ _ _ h => h) (Or.inl ⟨by rfl, ?hy39⟩) (by assumption) ?rest39
      case hy39 => (intro w hSw; (try dsimp only at hSw); go_simp; (try with_reducible rfl))
      simp only [Act.put, List.getElem_toArray, List.getElem_cons_zero, List.getElem_cons_succ, List.setIfInBounds_toArray, List.set_cons_zero, List.set_cons_succ]
      refine wpAnyH_take (i := 2) (v := ?v40) rfl (by kernel_rfl) (by kernel_rfl) (by kernel_rfl) (fun _ _ _ h => h) (Or.inl ⟨by rfl, ?hy40⟩) (by assumption) ?rest40
      case hy40 => (intro w hSw; (try dsimp only at hSw); go_simp; (try with_reducible rfl))
      simp only [Act.put, List.getElem_toArray, List.getElem_cons_zero, List.getElem_cons_succ, List.setIfInBounds_toArray, List.set_cons_zero, List.set_cons_succ]
      refine wpAnyH_take (i := 3) (v := ?v41) rfl (by kernel_rfl) (by kernel_rfl) (by kernel_rfl) (fun _ _ _ h => h) (Or.inl ⟨by rfl, ?hy41⟩) (by assumption) ?rest41
      case hy41 => (intro w hSw; (try dsimp only at hSw); go_simp; (try with_reducible rfl))
      simp only [Act.put, List.getElem_toArray, List.getElem_cons_zero, List.getElem_cons_succ, List.setIfInBounds_toArray, List.set_cons_zero, List.set_cons_succ]
      refine wpAnyH_take (i := 5) (v := ?v42) rfl (by kernel_rfl) (by kernel_rfl) (by kernel_rfl) (fun _ _ _ h => h) (Or.inl ⟨by rfl, ?hy42⟩) (by assumption) ?rest42
      case hy42 => (intro w hSw; (try dsimp only at hSw); go_simp; (try with_reducible rfl))
      simp only [Act.put, List.getElem_toArray, List.getElem_cons_zero, List.getElem_cons_succ, List.setIfInBounds_toArray, List.set_cons_zero, List.set_cons_succ]
      refine wpAnyH_take (i := 6) (v := ?v43) rfl (by kernel_rfl) (by kernel_rfl) (by kernel_rfl) (fun _ _ _ h => h) (Or.inl ⟨by rfl, ?hy43⟩) (by assumption) ?rest43
      case hy43 => (intro w hSw; (try dsimp only at hSw); go_simp; (try with_reducible rfl))
      simp only [Act.put, List.getElem_toArray, List.getElem_cons_zero, List.getElem_cons_succ, List.setIfInBounds_toArray, List.set_cons_zero, List.set_cons_succ]
      refine wpAnyH_take (i := 7) (v := ?v44) rfl (by kernel_rfl) (by kernel_rfl) (by kernel_rfl) (fun _ _ _ h => h) (Or.inl ⟨by rfl, ?hy44⟩) (by assumption) ?rest44
      case hy44 => (intro w hSw; (try dsimp only at hSw); go_simp; (try with_reducible rfl))
      simp only [Act.put, List.getElem_toArray, List.getElem_cons_zero, List.getElem_cons_succ, List.setIfInBounds_toArray, List.set_cons_zero, List.set_cons_succ]
      refine wpAnyH_take (i := 8) (v := ?v45) rfl (by kernel_rfl) (by kernel_rfl) (by kernel_rfl) (fun _ _ _ h => h) (Or.inl ⟨by rfl, ?hy45⟩) (by assumption) ?rest45
      case hy45 => (intro w hSw; (try dsimp only at hSw); go_simp; (try with_reducible rfl))
      simp only [Act.put, List.getElem_toArray, List.getElem_cons_zero, List.getElem_cons_succ, List.setIfInBounds_toArray, List.set_cons_zero, List.set_cons_succ]
      refine wpAnyH_ready (rs := [0]) (by kernel_rfl) (by simp) ?_
      refine AllReadyH.cons rfl (fun K hK => ?_) AllReadyH.nil
      simp only [List.getElem_toArray, List.getElem_cons_zero]
      go_simp
      refine hK.out _ _ (by (try dsimp only); go_grown) (fun hHeld => ?_)
      clear hK K
      have hI0 := Lib.hid (Pairs.boxed W.drew W.heap.size 55 [] (Nat.le_refl _) (by simp))
      refine wpAnyH_ready (rs := [4]) (by kernel_rfl) (by simp) ?_
      refine AllReadyH.cons rfl (fun K hK => ?_) AllReadyH.nil
      simp only [List.getElem_toArray, List.getElem_cons_zero, List.getElem_cons_succ]
      rw [if_pos (by rfl)]; refine wp_append_pairs (.tmp 26) (.tmp 29) 26 rfl W.heap.size 55 Try.underlying26 info_threadH (.slice (some ⟨W.heap.size, 0, none⟩) 0 0) (.slice (some ⟨g, 0, none⟩) k cap) [] (xs.take k) rfl rfl hI0.out (src_take (xs := xs) (k := k) (HSW.out.later hHeld) (by omega)) (by simp; omega) hHeld.size ?_; intro v2 w2 hI2 hg2 ho2
      refine hK.out _ _ (by (try dsimp only); exact Pairs.below hI0.out hHeld hHeld.size hg2) (fun hHeld => ?_)
      clear hK K
      simp only [Act.put, List.setIfInBounds_toArray, List.set_cons_zero, List.set_cons_succ]
      refine wpAnyH_ready (rs := [9]) (by kernel_rfl) (by simp) ?_
      refine AllReadyH.cons rfl (fun K hK => ?_) AllReadyH.nil
      simp only [List.getElem_toArray, List.getElem_cons_zero, List.getElem_cons_succ]
      rw [if_pos (by rfl)]; refine wp_append_pairs (.tmp 30) (.tmp 34) 26 rfl W.heap.size 55 Try.underlying26 info_threadH v2 _ ([] ++ xs.take k) (xs.drop k1) rfl rfl hI2 (src_drop_if (xs := xs) (k := k1) (HSW.out.later hHeld) (by omega) (by omega)) (by simp; omega) hHeld.size ?_; intro v3 w3 hI3 hg3 ho3
      refine hK.out _ _ (by (try dsimp only); exact Pairs.below hI2 hHeld hHeld.size hg3) (fun hHeld => ?_)
      clear hK K
      simp only [Act.put, List.setIfInBounds_toArray, List.set_cons_zero, List.set_cons_succ]
      refine wpAnyH_take (i := 10) (v := ?v46) rfl (by kernel_rfl) (by kernel_rfl) (by kernel_rfl) (fun _ _ _ h => h) (Or.inl ⟨by rfl, ?hy46⟩) (by assumption) ?rest46
      case hy46 => (intro w hSw; (try dsimp only at hSw); go_simp; (try with_reducible rfl))
      simp only [Act.put, List.getElem_toArray, List.getElem_cons_zero, List.getElem_cons_succ, List.setIfInBounds_toArray, List.set_cons_zero, List.set_cons_succ]
      refine wpAnyH_done (by kernel_rfl) ?_ _
      have HRr := Lib.hid (show PairsIn 55 w3 W.heap.size w3.heap.size v3 (restT xs k) from ⟨by rw [← HR.out]; exact hI3, fun b hb => (hI3.own b hb).2⟩)
      have HI3 := Lib.hid (HIW.out.later hHeld)
      have u0 := cellB hHeld v0
      have u1 := cellB hHeld v1
      have hzw : w.heap.size ≤ W.heap.size := by omega
      have hB3 := hBW2.trans (hHeld.mono hzw)
      have hz3 := hB3.size
      clear hI3 hg3 hI2 hg2 hI0 hHeld v0 v1 ho2 ho3
      generalize (if cap = k1 then some (⟨g, 0, none⟩ : Addr) else some ⟨g, k1 * 2, none⟩) = adr
      go_wp2
      go_loopw [8, 9] (fun s x wr => ∃ t : Nat, t ≤ a + 1 ∧ x = .int .i64 t ∧ s = .bool (qT (restT xs k) a b t) ∧ Below w3.heap.size w3 wr) (fun _ x _ => 102 - (intOf x).toNat)
      case atStart => exact ⟨0, by omega, rfl, rfl, Below.refl _ _⟩
      case round =>
        obtain ⟨t, ht, rfl, rfl, hBj⟩ := hrel
        have f0 := cellB hBj u0
        have f1 := cellB hBj u1
        have hzj := hBj.size
        have hHQ := hid_q HG.out k hlt a b HAB.out t (by omega)
        have HIj := Lib.hid (HI3.out.later hBj)
        have hB5 := hB3.trans (hBj.mono hz3)
        have hz5 := hB5.size
        by_cases hta : t ≤ a
        · have hta' : (t : Int) ≤ (a : Int) := by omega
          cases hq : qT (restT xs k) a b t with
          | true =>
            obtain ⟨m, kk, hm, em, hm1, ek, _, _, d1, d2⟩ := hgt_letters a b t HTT.out ⟨by omega, hta'⟩
            have hqs : qT (restT xs k) a b (t + 1) = decide (m / a < colT (t : Int) (restT xs k)) := by rw [qT, hq, hm, Int.toNat_natCast, Bool.true_and]
            have e1 : b * ((a : Int) - t) ≤ 100 * (a : Int) := Int.mul_le_mul b2 (by omega) d1 (by omega)
            have hy100 : m / a ≤ 100 := Nat.div_le_of_le_mul (by rw [Nat.mul_comm]; omega)
            have hdv : (m : Int) / (a : Int) = ((m / a : Nat) : Int) := (Int.natCast_ediv _ _).symm
            obtain ⟨y, hy⟩ : ∃ y, m / a = y := ⟨_, rfl⟩
            rw [hy] at hqs hy100 hdv
            rw [← any_rest HG.out k hlt H2.out t y] at hqs
            have HQS := Lib.hid hqs
            have r0 : ¬ a = 0 := by omega
            have w1' : IntKind.i64.wrap ((a : Int) - (t : Int)) = (a : Int) - t := by rw [IntKind.wrap_i64]; omega
            have w2' : IntKind.i64.wrap (m : Int) = m := by rw [IntKind.wrap_i64]; omega
            have w3' : IntKind.i64.wrap (y : Int) = y := by rw [IntKind.wrap_i64]; omega
            have w4' : IntKind.i64.wrap ((t : Int) + 1) = ((t + 1 : Nat) : Int) := by rw [IntKind.wrap_i64]; omega
            have HRj := Lib.hid (HRr.out.keep (belowSame hBj (Nat.le_refl _)))
            clear hHQ hqs hy ek hm e1
            go_wp2_with (first | (go_at_call 48; (refine (sgUnder_any _ (restT xs k) W.heap.size w3.heap.size _ HRj.out hzj t y HGR.out ⟨by omega, by omega⟩ ⟨by omega, by omega⟩).mono ?_); rintro e w5 ⟨rfl, hb5⟩; rw [← HQS.out]))
            go_roundw
            case rel => exact ⟨t + 1, by omega, by go_num, rfl, hBj.trans (hb5.mono hzj)⟩
            case measure => simp [intOf]; omega
          | false =>
            have hh := hHQ (.inr hq)
            rw [hq] at hh
            have HSK := Lib.hid (selT_no (hidT xs) k hh)
            clear hHQ hh hq
            go_wp2
            go_roundw
            case rel => exact ⟨k + 1, by omega, by rw [HK5.out], by rw [← HSK.out]; exact HIj.out, hB5⟩
            case measure => have := HK5.out; simp [intOf]; omega
        · have hta' : ¬ (t : Int) ≤ (a : Int) := by omega
          have hh := hHQ (.inl hta')
          cases hq : qT (restT xs k) a b t with
          | true =>
            rw [hq] at hh
            have HSK := Lib.hid (selT_yes (hidT xs) k hh)
            clear hHQ hh hq
            go_wp2_with (first | (at_builtin; refine wpList_append_int rfl _ _ 30 rfl (w.heap.size) 3 Try.underlying30 info_int _ _ rfl HIj.out (k : Int) rfl (by omega) (by omega) ?_; intro v' w' hI' hg'; have hB' := HIj.out.below hB5 hz5 hg'; rw [HSK.out] at hI'; have HI' := Lib.hid hI'; clear hI'))
            go_roundw
            case rel => exact ⟨k + 1, by omega, by rw [HK5.out], HI'.out, hB'⟩
            case measure => have := HK5.out; simp [intOf]; omega
          | false =>
            rw [hq] at hh
            have HSK := Lib.hid (selT_no (hidT xs) k hh)
            clear hHQ hh hq
            go_wp2
            go_roundw
            case rel => exact ⟨k + 1, by omega, by rw [HK5.out], by rw [← HSK.out]; exact HIj.out, hB5⟩
            case measure => have := HK5.out; simp [intOf]; omega
    · obtain rfl : k = xs.length := by omega
      go_wp2
      go_ret2
      exact ⟨_, rfl, ⟨hI, fun b hb => (hI.own b hb).2⟩, hB⟩

end Go.Proofs.Ytngonpiiehmlaab
