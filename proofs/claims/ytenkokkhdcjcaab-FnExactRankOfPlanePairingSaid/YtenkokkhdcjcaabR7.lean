/- The rank of a plane pairing: the model. -/
import Derived.Test.YtenkokkhdcjcaabR6
namespace Go.Proofs.Ytenkokkhdcjcaab
open Go.RowKit
set_option linter.unusedVariables false

set_option maxHeartbeats 400000 in
theorem cdRank_zero (a : Nat) (a0 a1 : Option Addr) (l0 l1 c0 c1 : Nat) (w : World) :
    Calls Try.prog 60 #[.slice a0 l0 c0, .int .i64 a, .int .i64 0, .slice a1 l1 c1] w fun e w' => e = .returned (.int .i64 0) ∧ Below w.heap.size w w' := by
  go_enter Try.func60, Try.ntmps60
  go_wp2
  go_ret
  exact ⟨rfl, Below.refl _ _⟩

set_option maxHeartbeats 1000000 in
theorem cdRank_step (f a u v P B T B2 T2 : Nat) (ys zs xs : List (Int × Int)) (lv wv : Value) (w : World) (h : PairsIn 62 w B T lv xs) (hI : IntsIn 3 w B2 T2 wv (waysL P (P / 2 + 1) 0)) (hP : 2 * (u + 1 + v) ≤ P) (hP30 : P ≤ 30) (hy : Plan (a + 1) u ys) (hz : Plan (a + 2 * u + 2) v zs)
    (hn : u + 1 + v ≤ 15) (hf : u + 1 + v ≤ f + 1) (ha : a ≤ 60) (hl : xs.length ≤ 40) (i0 : Nat) (hi0 : i0 < xs.length) (hx0 : xs.getD i0 (0, 0) = ((a : Int), ((a + 2 * u + 1 : Nat) : Int))) (huni : ∀ i, i < xs.length → (xs.getD i (0, 0)).1 = a → (xs.getD i (0, 0)).2 = (a + 2 * u + 1 : Nat))
    (ih1 : ∀ W, Below w.heap.size w W → Calls Try.prog 60 #[lv, .int .i64 (a + 1 : Nat), .int .i64 (2 * u : Nat), wv] W fun e w' => e = .returned (.int .i64 (rankP f ys : Nat)) ∧ Below W.heap.size W w')
    (ih2 : ∀ W, Below w.heap.size w W → Calls Try.prog 60 #[lv, .int .i64 (a + 2 * u + 2 : Nat), .int .i64 (2 * v : Nat), wv] W fun e w' => e = .returned (.int .i64 (rankP f zs : Nat)) ∧ Below W.heap.size W w') :
    Calls Try.prog 60 #[lv, .int .i64 a, .int .i64 (2 * (u + 1 + v) : Nat), wv] w fun e w' => e = .returned (.int .i64 (rankP (f + 1) (((a : Int), ((a + 2 * u + 1 : Nat) : Int)) :: (ys ++ zs)) : Nat)) ∧ Below w.heap.size w w' := by
  obtain ⟨a1, c1, g1, rfl, ha1, hmm, hx1, hy1⟩ := h.pairs.view
  obtain ⟨a2, cap, g, rfl, hga, _, hml, _, hcell, _⟩ := hI.1.view
  have hlt := rankP_lt (Plan.cons a u v ys zs hy hz) (f + 1) (by omega) (by omega)
  have hrk := rankP_cons f a u v ys zs hy.len hz.len
  obtain rfl := ha1 (by omega)
  rw [waysL_length] at *
  obtain rfl := hga (by omega)
  have HX0 := Lib.hid hx0
  have HUNI := Lib.hid huni
  obtain ⟨n, hnn⟩ : ∃ n, n = u + 1 + v := ⟨_, rfl⟩
  obtain ⟨nn, hnn2⟩ : ∃ n, n = 2 * (u + 1 + v) := ⟨_, rfl⟩
  obtain ⟨L, hL⟩ : ∃ L, L = xs.length := ⟨_, rfl⟩
  have X := Lib.hid hx1
  have Y := Lib.hid hy1
  have HCL := Lib.hid hcell
  have u1 : u < n := by omega
  have v1 : v < n := by omega
  rw [← hnn] at hn hf hlt hrk
  rw [← hnn2] at hP ⊢
  rw [← hL] at hl hi0 hmm X Y HUNI ih1 ih2 ⊢
  have hcn := cat_le n (by omega)
  have hcv := cat_le v (by omega)
  have hcs := fun t (ht : t ≤ n) => catSum_le n t (by omega) (by omega) ht
  obtain ⟨tot, htot⟩ : ∃ r, r = rankP (f + 1) (((a : Int), ((a + 2 * u + 1 : Nat) : Int)) :: (ys ++ zs)) := ⟨_, rfl⟩
  obtain ⟨y1, hy1'⟩ : ∃ r, r = rankP f ys := ⟨_, rfl⟩
  obtain ⟨y2, hy2'⟩ : ∃ r, r = rankP f zs := ⟨_, rfl⟩
  rw [← htot] at hlt hrk ⊢
  rw [← hy1'] at hrk ih1
  rw [← hy2'] at hrk ih2
  have HRK := Lib.hid hrk
  have HLT := Lib.hid hlt
  have HNN := Lib.hid hnn
  have HNN2 := Lib.hid hnn2
  have HCS := Lib.hid hcs
  have I1 := Lib.hid ih1
  have I2 := Lib.hid ih2
  have e0 : ((nn : Int) == 0) = false := by rw [beq_eq_false_iff_ne]; omega
  have k30 : nn ≤ 30 := by omega
  clear h hI hy hz ih1 ih2 hx0 huni hx1 hy1 hcell ha1 hga hrk hlt hnn hnn2 hcs htot hy1' hy2' hL
  go_enter Try.func60, Try.ntmps60
  go_wp2
  go_loopw [9, 10] (fun rk kv wr => ∃ t : Nat, t ≤ u ∧ kv = .int .i64 (2 * t + 1 : Nat) ∧ rk = .int .i64 (catSum n t : Nat) ∧ Below w.heap.size w wr) (fun _ kv _ => 2 * u + 2 - (intOf kv).toNat)
  case atStart => exact ⟨0, by omega, rfl, rfl, Below.refl _ _⟩
  case round =>
    obtain ⟨wo, rfl⟩ : ∃ z, z = wr := ⟨wr, rfl⟩
    obtain ⟨t, ht, rfl, rfl, hB⟩ := hrel
    have hzo := hB.size
    have hnn := HNN.out
    have hnn2 := HNN2.out
    obtain ⟨kk, hkk⟩ : ∃ k, k = 2 * t + 1 := ⟨_, rfl⟩
    obtain ⟨q1, hq1⟩ : ∃ k, k = 2 * t := ⟨_, rfl⟩
    obtain ⟨q2, hq2⟩ : ∃ k, k = 2 * (n - 1 - t) := ⟨_, rfl⟩
    obtain ⟨q3, hq3⟩ : ∃ k, k = nn - 1 := ⟨_, rfl⟩
    rw [← hkk]
    have e1 : IntKind.i64.wrap ((kk : Int) - 1) = (q1 : Int) := by rw [IntKind.wrap_i64]; omega
    have e3 : IntKind.i64.wrap ((nn : Int) - 1) = (q3 : Int) := by rw [IntKind.wrap_i64]; omega
    have e2 : IntKind.i64.wrap ((q3 : Int) - (kk : Int)) = (q2 : Int) := by rw [IntKind.wrap_i64]; omega
    have x1 := HCL.out q1 (by omega)
    have x2 := (hB.cell (p := ⟨g, q2, none⟩) (World.block_lt_of_cell? w _ (HCL.out q2 (by omega)))).trans (HCL.out q2 (by omega))
    rw [waysL_get _ _ _ _ (by omega), if_pos (by omega), if_pos (by omega), show q1 / 2 = t by omega] at x1
    rw [waysL_get _ _ _ _ (by omega), if_pos (by omega), if_pos (by omega), show q2 / 2 = n - 1 - t by omega] at x2
    have m1 := cat_mul n t (by omega) hn
    have hs : catSum n (t + 1) = catSum n t + cat t * cat (n - 1 - t) := rfl
    have hc1 := HCS.out t (by omega)
    have hc2 := HCS.out (t + 1) (by omega)
    obtain ⟨rk, hrk⟩ : ∃ c, c = catSum n t := ⟨_, rfl⟩
    obtain ⟨rk', hrk'⟩ : ∃ c, c = catSum n (t + 1) := ⟨_, rfl⟩
    obtain ⟨ca, hca⟩ : ∃ c, c = cat t := ⟨_, rfl⟩
    obtain ⟨cb, hcb⟩ : ∃ c, c = cat (n - 1 - t) := ⟨_, rfl⟩
    rw [← hrk, ← hrk', ← hca, ← hcb] at hs
    rw [← hrk] at hc1 ⊢
    rw [← hrk'] at hc2
    rw [← hca, ← hcb] at m1
    rw [← hca] at x1
    have X1 := Lib.hid x1
    clear x1
    rw [← hcb] at x2
    obtain ⟨m, hmul⟩ : ∃ m, m = ca * cb := ⟨_, rfl⟩
    rw [← hmul] at hs m1
    have hw : IntKind.i64.wrap ((ca : Int) * (cb : Int)) = (m : Int) := by
      have h1 : (ca : Int) * (cb : Int) = (m : Int) := by rw [hmul]; push_cast; rfl
      rw [h1, IntKind.wrap_i64]; omega
    have hw2 : IntKind.i64.wrap ((rk : Int) + (m : Int)) = (rk' : Int) := by rw [IntKind.wrap_i64]; omega
    have k1 : (kk : Int) < (nn : Int) := by omega
    have k3 : (q1 : Int) < (P : Int) + 1 := by omega
    have k4 : (q2 : Int) < (P : Int) + 1 := by omega
    have k5 : 0 ≤ (kk : Int) := by omega
    have k6 : (kk : Int) ≤ 30 := by omega
    have HKK := Lib.hid hkk
    have HQ1 := Lib.hid hq1
    have HQ2 := Lib.hid hq2
    have HRK1 := Lib.hid hrk
    have HRK2 := Lib.hid hrk'
    have HCB := Lib.hid hcb
    clear hs hnn hnn2 hkk hq1 hq2 hq3 hrk hrk' hca hcb hmul
    go_wp2
    go_loopw [30] (fun iv wr => ∃ i : Nat, i ≤ L ∧ iv = .int .i64 i ∧ (t = u → i ≤ i0) ∧ Below w.heap.size w wr) (fun iv _ => L - (intOf iv).toNat)
    case atStart => exact ⟨0, by omega, rfl, fun _ => by omega, hB⟩
    case round =>
      obtain ⟨i, hi, rfl, hii, hBi⟩ := hrel
      have hzi := hBi.size
      have HII := Lib.hid hii
      clear hii x2
      by_cases hil : i < L
      · obtain ⟨x, y, hxy⟩ : ∃ x y, xs.getD i (0, 0) = (x, y) := ⟨_, _, rfl⟩
        have cx : wr.cell? ⟨g1, i * 2, none⟩ = _ := (hBi.cell (p := ⟨g1, i * 2, none⟩) (World.block_lt_of_cell? w _ (X.out i hil))).trans (X.out i hil)
        have cy : wr.cell? ⟨g1, i * 2 + 1, none⟩ = _ := (hBi.cell (p := ⟨g1, i * 2 + 1, none⟩) (World.block_lt_of_cell? w _ (Y.out i hil))).trans (Y.out i hil)
        rw [hxy] at cx cy
        simp only at cx cy
        have HXY := Lib.hid hxy
        have hun := HUNI.out i hil
        rw [hxy] at hun
        simp only at hun
        clear hxy
        by_cases hxa : x = (a : Int)
        · have hyy := hun hxa
          by_cases htu : t = u
          · have z1 : (x == (a : Int)) = true := by rw [hxa]; simp
            have z2 : (y == (a : Int) + (kk : Int)) = true := by rw [beq_iff_eq, hyy]; have := HKK.out; omega
            have HTU := Lib.hid htu
            obtain ⟨yy1, hyy1⟩ : ∃ c, c = a + 1 := ⟨_, rfl⟩
            have hcb2 : cb = cat v := by rw [HCB.out]; congr 1; have := HNN.out; omega
            have hrk2 : rk = catSum n u := by rw [HRK1.out, htu]
            have hR := HRK.out
            rw [← hrk2, ← hcb2] at hR
            have hL2 := HLT.out
            obtain ⟨m2, hm2⟩ : ∃ m, m = y1 * cb := ⟨_, rfl⟩
            rw [← hm2] at hR
            have g1' : IntKind.i64.wrap ((y1 : Int) * (cb : Int)) = (m2 : Int) := by
              have h1 : (y1 : Int) * (cb : Int) = (m2 : Int) := by rw [hm2]; push_cast; rfl
              rw [h1, IntKind.wrap_i64]; omega
            obtain ⟨s, hs⟩ : ∃ s, s = rk + m2 := ⟨_, rfl⟩
            have g2 : IntKind.i64.wrap ((rk : Int) + (m2 : Int)) = (s : Int) := by rw [IntKind.wrap_i64]; omega
            have g3 : IntKind.i64.wrap ((s : Int) + (y2 : Int)) = (tot : Int) := by rw [IntKind.wrap_i64]; omega
            have J1 : Hid (∀ W, Below w.heap.size w W → Calls Try.prog 60 #[.slice (some ⟨g1, 0, none⟩) L c1, .int .i64 ((a : Int) + 1), .int .i64 (q1 : Int), .slice (some ⟨g, 0, none⟩) (P + 1) cap] W fun e w' => e = .returned (.int .i64 (y1 : Nat)) ∧ Below W.heap.size W w') := by
              have := I1.out
              rw [show 2 * u = q1 by have := HQ1.out; omega] at this
              exact Lib.hid this
            have J2 : Hid (∀ W, Below w.heap.size w W → Calls Try.prog 60 #[.slice (some ⟨g1, 0, none⟩) L c1, .int .i64 ((a : Int) + (kk : Int) + 1), .int .i64 (q2 : Int), .slice (some ⟨g, 0, none⟩) (P + 1) cap] W fun e w' => e = .returned (.int .i64 (y2 : Nat)) ∧ Below W.heap.size W w') := by
              have := I2.out
              rw [show 2 * v = q2 by have := HQ2.out; have := HNN.out; omega, show ((a + 2 * u + 2 : Nat) : Int) = (a : Int) + (kk : Int) + 1 by have := HKK.out; omega] at this
              exact Lib.hid this
            clear hun hyy hxa htu hyy1 hcb2 hrk2 hR hL2 hm2 hs I1 I2
            go_wp2_with (first | (go_at_call 60; (with_reducible refine (J1.out _ (hBi.alloc (by omega) _)).mono ?_); rintro e w2 ⟨rfl, hb2⟩; have B2 := (hBi.alloc (o := .cells #[.int .i64 x, .int .i64 y] 62) (by omega)).trans (hb2.mono (by simp; omega)); clear hb2) | (go_at_call 60; (with_reducible refine (J2.out _ B2).mono ?_); rintro e w3 ⟨rfl, hb3⟩; have B3 := B2.trans (hb3.mono B2.size); clear hb3))
            go_ret
            exact ⟨rfl, B3⟩
          · have z1 : (x == (a : Int)) = true := by rw [hxa]; simp
            have z2 : (y == (a : Int) + (kk : Int)) = false := by rw [beq_eq_false_iff_ne, hyy]; have := HKK.out; omega
            have HTU := Lib.hid htu
            clear hun hyy hxa htu
            go_wp2
            go_roundw
            case rel => exact ⟨i + 1, by omega, by go_num, fun e => absurd e HTU.out, hBi.alloc (by omega) _⟩
            case measure => simp [intOf]; omega
        · have z1 : (x == (a : Int)) = false := by rw [beq_eq_false_iff_ne]; exact hxa
          have hst : t = u → i + 1 ≤ i0 := by
            intro e
            have h1 := HII.out e
            by_cases h2 : i = i0
            · subst h2
              have h3 := HX0.out
              rw [HXY.out, Prod.mk.injEq] at h3
              exact absurd h3.1 hxa
            · omega
          have HST := Lib.hid hst
          clear hun hxa hst
          go_wp2
          go_roundw
          case rel => exact ⟨i + 1, by omega, by go_num, HST.out, hBi.alloc (by omega) _⟩
          case measure => simp [intOf]; omega
      · obtain rfl : i = L := by omega
        have x1 := (hBi.cell (p := ⟨g, q1, none⟩) (World.block_lt_of_cell? w _ X1.out)).trans X1.out
        have htu : ¬ t = u := fun e => by have := HII.out e; omega
        have HTU := Lib.hid htu
        clear htu
        go_wp2
        go_roundw
        case rel => exact ⟨t + 1, by have := HTU.out; omega, by rw [show 2 * (t + 1) + 1 = kk + 2 by (have := HKK.out; omega)]; go_num, by rw [HRK2.out], hBi⟩
        case measure => simp [intOf]; have := HKK.out; omega

theorem cdRank_any (f : Nat) : ∀ (a n P B T B2 T2 : Nat) (ys xs : List (Int × Int)) (lv wv : Value) (w : World), PairsIn 62 w B T lv xs → T ≤ w.heap.size → IntsIn 3 w B2 T2 wv (waysL P (P / 2 + 1) 0) → T2 ≤ w.heap.size → 2 * n ≤ P → P ≤ 30 → Plan a n ys →
    n ≤ f → n ≤ 15 → a + 2 * n ≤ 60 → xs.length ≤ 40 → (∀ c ∈ ys, c ∈ xs) → (∀ c ∈ xs, ∀ d ∈ xs, c.1 = d.1 → c = d) →
    Calls Try.prog 60 #[lv, .int .i64 a, .int .i64 (2 * n : Nat), wv] w fun e w' => e = .returned (.int .i64 (rankP f ys : Nat)) ∧ Below w.heap.size w w' := by
  have nilc : ∀ (f a P B T B2 T2 : Nat) (xs : List (Int × Int)) (lv wv : Value) (w : World), PairsIn 62 w B T lv xs → IntsIn 3 w B2 T2 wv (waysL P (P / 2 + 1) 0) →
      Calls Try.prog 60 #[lv, .int .i64 a, .int .i64 0, wv] w fun e w' => e = .returned (.int .i64 (rankP f [] : Nat)) ∧ Below w.heap.size w w' := by
    intro f a P B T B2 T2 xs lv wv w h hI
    obtain ⟨a1, c1, g1, rfl, _⟩ := h.pairs.view
    obtain ⟨a2, cap, g, rfl, _⟩ := hI.1.view
    rw [rankP_nil]
    exact cdRank_zero a _ _ _ _ _ _ w
  induction f with
  | zero =>
    intro a n P B T B2 T2 ys xs lv wv w h hT hI hT2 _ _ hy hn _ _ _ _ _
    obtain rfl := Nat.le_zero.1 hn
    obtain rfl := List.length_eq_zero_iff.1 hy.len
    exact nilc 0 a P B T B2 T2 xs lv wv w h hI
  | succ f ih =>
    intro a n P B T B2 T2 ys xs lv wv w h hT hI hT2 hP hP30 hy hn h15 ha hl hsub huni
    cases hy with
    | nil a => exact nilc _ a P B T B2 T2 xs lv wv w h hI
    | cons a u v ys zs hy hz =>
      obtain ⟨i0, hi0, hx0⟩ := List.getElem_of_mem (hsub _ List.mem_cons_self)
      have hx0' : xs.getD i0 (0, 0) = ((a : Int), ((a + 2 * u + 1 : Nat) : Int)) := by rw [List.getD_eq_getElem?_getD, List.getElem?_eq_getElem hi0]; exact hx0
      refine cdRank_step f a u v P B T B2 T2 ys zs xs lv wv w h hI hP hP30 hy hz h15 hn (by omega) hl i0 hi0 hx0' (fun i hi he => ?_) (fun W hW => ?_) (fun W hW => ?_)
      · have hm1 : xs.getD i (0, 0) ∈ xs := by rw [List.getD_eq_getElem?_getD, List.getElem?_eq_getElem hi]; exact List.getElem_mem hi
        have := huni _ hm1 _ (hsub _ List.mem_cons_self) he
        rw [this]
      · exact ih (a + 1) u P B T B2 T2 ys xs lv wv W (h.keep (belowSame hW hT)) (Nat.le_trans hT hW.size) (hI.keep (belowSame hW hT2)) (Nat.le_trans hT2 hW.size) (by omega) hP30 hy (by omega) (by omega) (by omega) hl (fun c hc => hsub c (by simp [hc])) huni
      · exact ih (a + 2 * u + 2) v P B T B2 T2 zs xs lv wv W (h.keep (belowSame hW hT)) (Nat.le_trans hT hW.size) (hI.keep (belowSame hW hT2)) (Nat.le_trans hT2 hW.size) (by omega) hP30 hz (by omega) (by omega) (by omega) hl (fun c hc => hsub c (by simp [hc])) huni

end Go.Proofs.Ytenkokkhdcjcaab
