/- Closed words, counted: the program's loops. -/
import Derived.Test.YtbgcbokddldmkaaDoorCc5
import Derived.Deep.RegionHeld3
namespace Go.Proofs.YtbgcbokddldmkaaDoor
open Go.RowKit Go.Maps
set_option linter.unusedVariables false
set_option maxHeartbeats 16000000 in
set_option maxRecDepth 100000 in
theorem countLonger_any (g : Int) (b n m : Nat) (xs : Cnts) (w : World) (hg : isG g) (hM : MapC w b n xs) (hX : AllPos g m xs) (hm : m ≤ 9) (hn : n ≤ 100000) (hW : StepsW w) (hT : wt xs (fun _ => 1) ≤ 20000) :
    Calls Tryd.prog 97 #[.int .i64 g, .map (some b)] w fun e w' => ∃ b' ys, e = .returned (.map (some b')) ∧ MapC w' b' (3 * n) ys ∧ AllPos g (m + 1) ys ∧ (∀ T, wt ys T = wt xs (moreT g T)) ∧ Below w.heap.size w w' := by
  have hbl := hM.lt
  obtain ⟨D, hown, hR⟩ := hM
  have hsz := hown.size_le
  have HRD := Lib.hid hR
  have HX := Lib.hid hX
  have HG := Lib.hid hg
  have HW := Lib.hid hW
  have HTT := Lib.hid hT
  have hmk := @run_makeMap Tryd.prog
  have g0 : ¬ g = 0 := by rcases hg with rfl | rfl <;> omega
  clear hR hX hg hW hT
  go_enter Tryd.func97, Tryd.ntmps97
  go_wp2_with (first | (at_range; refine wpList_range_own _ rfl _ 120 rfl 119 3 keyPl Tryd.underlying120 _ b n _ rfl (hown.alloc _) ?_; intro w0 hrg0 hg0 hs0))
  rw [World.size_alloc] at hrg0
  have hM0 := (MapC.made w).kept hg0 (by simp)
  have hB0 : Below w.heap.size w w0 := (((Below.refl w.heap.size w).alloc (Nat.le_refl _) _)).grown hg0 (by simp) (fun k hk => by simp at hk)
  have hs0' : w0.heap.size = w.heap.size + 2 := by rw [hs0, World.size_alloc]
  have HRG0 := Lib.hid hrg0
  have HM0 := Lib.hid hM0
  have HB0 := Lib.hid hB0
  clear hrg0 hg0 hs0 hown hM0 hB0 hmk
  go_frame
  rw [World.size_alloc]
  go_loopw [7] (fun _ wr => ∃ (left : Lit → Bool) (cnt : Nat) (ys : Cnts) (N : Nat), wr.ranges Tryd.prog 119 elemN b (w.heap.size + 1) n D left cnt ∧ MapC wr w.heap.size N ys ∧ N + 3 * cnt ≤ 3 * n ∧ Hid (AllPos g (m + 1) ys) ∧ Hid (∀ T, wt ys T + wt (restC xs left) (moreT g T) = wt xs (moreT g T)) ∧ Below w.heap.size w wr ∧ w.heap.size + 2 ≤ wr.heap.size) (fun _ wr => wr.rangeLeft b (w.heap.size + 1))
  case atStart => exact ⟨_, _, [], 0, HRG0.out, HM0.out, by omega, Lib.hid ⟨by simp [Once], fun q hq => by simp at hq⟩, Lib.hid fun T => by rw [restC_start HRD.out, wt_nil]; omega, HB0.out, by omega⟩
  case round =>
    obtain ⟨left, cnt, ys, N, hrg, hMy, hN, HY, HINV, hB, hz⟩ := hrel
    have HMy := Lib.hid hMy
    have HB := Lib.hid hB
    clear HRG0 HM0 HB0 hs0' hMy hB
    go_wp2_with (first | (at_next; refine next_counts _ rfl _ rfl b (w.heap.size + 1) n _ _ _ rfl hrg ?_ ?_))
    · intro hl0
      have HE := Lib.hid (show ∀ T, wt ys T = wt xs (moreT g T) from fun T => by have := HINV.out T; rw [restC_end hl0, wt_nil] at this; omega)
      clear hl0
      go_wp2
      go_ret
      exact ⟨_, ys, rfl, HMy.out.mono (by omega), HY.out, HE.out, HB.out⟩
    · intro x y d c kl w1 cnt1 hkey hlk hat hrg1 hlt hg1 hs1 hen
      obtain ⟨hin, hst⟩ := restC_step HRD.out hkey hlk hat
      have hok := HX.out.2 _ hin
      have hcl := (look_le HX.out (x, y, d)).2
      rw [look_mem HX.out.1 hin] at hcl
      have hc1 : 1 ≤ c := hok.2
      have hc2 : c ≤ 20000 := Int.le_trans hcl HTT.out
      have HP := Lib.hid hok.1
      obtain ⟨left1, hl1⟩ : ∃ z : Lit → Bool, z = fun z => left z && !z.sameKey kl := ⟨_, rfl⟩
      rw [← hl1] at hrg1 hst
      have HI1 := Lib.hid (show (∀ T, wt ys T + c * fromT g T (x, y, d) 0 + wt (restC xs left1) (moreT g T) = wt xs (moreT g T)) from fun T => by have h1 := HINV.out T; have h2 := hst (moreT g T); show wt ys T + c * moreT g T (x, y, d) + _ = _; omega)
      have hM1 := HMy.out.kept hg1 (by simp)
      have hB1 := HB.out.grown hg1 (by omega) (fun k hk => by cases hk; omega)
      have HM1 := Lib.hid hM1
      have HB1 := Lib.hid hB1
      have HRG1 := Lib.hid hrg1
      have HRGo := Lib.hid hrg
      have HLT := Lib.hid hlt
      have hs2 : w.heap.size + 2 ≤ w1.heap.size := by omega
      obtain ⟨wo, rfl⟩ : ∃ z, z = wr := ⟨wr, rfl⟩
      clear hin hst hok hcl hkey hlk hat hl1 hrg1 hM1 hB1 hg1 hs1 hrg hlt HINV HMy HB
      go_wp2
      go_loopw [21] (fun i wr => ∃ (j N1 : Nat) (ys1 : Cnts), j ≤ 3 ∧ i = .int .i64 (j : Int) ∧ wr.ranges Tryd.prog 119 elemN b (w.heap.size + 1) n D left1 cnt1 ∧ MapC wr w.heap.size N1 ys1 ∧ N1 ≤ N + j ∧ Hid (AllPos g (m + 1) ys1) ∧ Hid (∀ T, wt ys1 T + c * fromT g T (x, y, d) j + wt (restC xs left1) (moreT g T) = wt xs (moreT g T)) ∧ (wr.cell? ⟨w1.heap.size, 0, none⟩ = some (.int .i64 x) ∧ wr.cell? ⟨w1.heap.size, 1, none⟩ = some (.int .i64 y) ∧ wr.cell? ⟨w1.heap.size, 2, none⟩ = some (.int .i64 d)) ∧ Below w.heap.size w wr ∧ w1.heap.size + 1 ≤ wr.heap.size) (fun i _ => 3 - (intOf i).toNat)
      case atStart => exact ⟨0, N, ys, by omega, rfl, HRG1.out.alloc _, HM1.out.later ((Below.refl _ _).alloc (Nat.le_refl _) _), by omega, HY, HI1, ⟨by go_simp, by go_simp, by go_simp⟩, HB1.out.alloc (by omega) _, by simp⟩
      case round =>
        obtain ⟨j, N1, ys1, hj, rfl, hrg, hMy, hN1, HY1, HINV, ⟨p0, p1, p2⟩, hB, hz2⟩ := hrel
        have HMy := Lib.hid hMy
        have HB := Lib.hid hB
        have HRG := Lib.hid hrg
        have HWr := Lib.hid (HW.out.later hB)
        have hys := wt_bound HX.out (by omega) (HINV.out fun _ => 1) HTT.out
        clear hMy hB hrg HRG1 HM1 HB1 HI1
        by_cases hj3 : j < 3
        · rcases (show j = 0 ∨ j = 1 ∨ j = 2 by omega) with rfl | rfl | rfl
          · have HA := Lib.hid (fun W hW => after_any g (x, y, d) 0 m W HG.out HP.out (by omega) (by omega) hW)
            rw [show signB 0 = 70 from rfl] at HA
            have hok := okP_next HG.out HP.out 0
            obtain ⟨kq, hkq⟩ := isKeyP_ok HG.out hok (by omega)
            have HST := Lib.hid (show ∀ T, fromT g T (x, y, d) 0 = T (nxtP g 0 (x, y, d)) + fromT g T (x, y, d) 1 from fun T => fromT_step g T (x, y, d) 0 (by omega))
            obtain ⟨q, hq⟩ : ∃ q, nxtP g 0 (x, y, d) = q := ⟨_, rfl⟩
            rw [hq] at HA hok hkq HST
            obtain ⟨qx, qy, qd⟩ := q
            simp only at HA
            have HOK := Lib.hid hok
            have HKQ := Lib.hid hkq
            clear hok hkq hq
            have ix : ∀ W, (Instr.index 139 (.agg #[.int .u8 70, .int .u8 76, .int .u8 82]) (.int .i64 0)).run Tryd.prog W = .ok (.int .u8 70) W := fun _ => by kernel_rfl
            go_wp2_with (first | (go_at_call 126; (refine (HA.out _ HWr.out).mono ?_); rintro e w3 ⟨rfl, hb3⟩; (have HB3 := Lib.hid hb3); (have hz3 := hb3.size); clear hb3))
            obtain ⟨wb, hwb⟩ : ∃ z : World, z = w3.alloc (.cells #[.int .i64 qx, .int .i64 qy, .int .i64 qd] 119) := ⟨_, rfl⟩
            have hbb : Below w3.heap.size w3 wb := by rw [hwb]; exact (Below.refl _ _).alloc (Nat.le_refl _) _
            have c0 : wb.cell? ⟨w3.heap.size, 0, none⟩ = some (.int .i64 qx) := by rw [hwb]; go_simp
            have c1 : wb.cell? ⟨w3.heap.size, 1, none⟩ = some (.int .i64 qy) := by rw [hwb]; go_simp
            have c2 : wb.cell? ⟨w3.heap.size, 2, none⟩ = some (.int .i64 qd) := by rw [hwb]; go_simp
            have hBb : Below wr.heap.size wr wb := HB3.out.trans (hbb.mono hz3)
            rw [← hwb]
            clear hwb
            have hMd : MapC wb.drew w.heap.size N1 ys1 := (HMy.out.later hBb).same rfl
            have hlk := look_le HY1.out (qx, qy, qd)
            have hwf : (Lit.int .i64 (look ys1 (qx, qy, qd) + c)).wf = true := WalkArith.wf_i64 (by omega)
            obtain ⟨st, o1, o2, r1, r2, r3, hM2⟩ := hMd.bump_run (by omega) HKQ.out c hwf
            have r0 := hMd.look_run HKQ.out
            have HMF := Lib.hid hM2
            have HYF := Lib.hid (allPos_bump HY1.out HOK.out (x := c) (by omega))
            have HWT := Lib.hid (fun T => wt_bump HY1.out.1 (qx, qy, qd) c T)
            obtain ⟨lk, hlk0⟩ : ∃ z, look ys1 (qx, qy, qd) = z := ⟨_, rfl⟩
            obtain ⟨ys2, hys2⟩ : ∃ z, bump ys1 (qx, qy, qd) c = z := ⟨_, rfl⟩
            rw [hlk0] at r0 r1 r2 r3 hlk
            rw [hys2] at HMF HYF HWT
            have hw4 : IntKind.i64.wrap (lk + c) = lk + c := wrapX _ (by omega)
            simp only [aggP] at r0 r1 r2 r3
            have hbo : w.heap.size < wb.drew.heap.size := hMd.lt
            have g1 := grown_setBlock (o := o1) hbo
            have g2 := grown_setBlock (w := Go.ChangeMaps.setBlock wb.drew w.heap.size o1) (o := o2) (Nat.lt_of_lt_of_le hbo g1.size)
            have nb : some w3.heap.size ≠ some w.heap.size := by simp; omega
            have s0 := g1.cell (show wb.drew.cell? ⟨w3.heap.size, 0, none⟩ = _ from c0) nb
            have s1 := g1.cell (show wb.drew.cell? ⟨w3.heap.size, 1, none⟩ = _ from c1) nb
            have s2 := g1.cell (show wb.drew.cell? ⟨w3.heap.size, 2, none⟩ = _ from c2) nb
            have u0 := g2.cell s0 nb
            have u1 := g2.cell s1 nb
            have u2 := g2.cell s2 nb
            have HGR := Lib.hid (show wr.grownBy (Go.ChangeMaps.setBlock (Go.ChangeMaps.setBlock wb.drew w.heap.size o1) w.heap.size o2) (some w.heap.size) from (grownOfBelow hBb (some w.heap.size)).trans ((show wb.grownBy wb.drew (some w.heap.size) from ⟨rfl, rfl, rfl, Nat.le_refl _, fun _ _ _ => rfl⟩).trans (g1.trans g2)))
            clear hMd hM2 hlk0 hys2 hbo g1 g2 nb hwf hBb hbb
            refine wp_region_held_drew (S := fun w' => w'.cell? ⟨w3.heap.size, 0, none⟩ = some (.int .i64 qx) ∧ w'.cell? ⟨w3.heap.size, 1, none⟩ = some (.int .i64 qy) ∧ w'.cell? ⟨w3.heap.size, 2, none⟩ = some (.int .i64 qd)) (by kernel_rfl) (by (try dsimp only); exact ⟨c0, c1, c2⟩) (fun hHeld => ?_)
            refine wpAnyH_take (i := 0) (v := ?v1) rfl (by kernel_rfl) (by kernel_rfl) (by kernel_rfl) (fun _ _ _ h => h) (Or.inl ⟨by rfl, ?hy1⟩) (by assumption) ?rest1
            case hy1 => (intro w hSw; (try dsimp only at hSw); go_simp; (try with_reducible rfl))
            simp only [Act.put, List.getElem_toArray, List.getElem_cons_zero, List.setIfInBounds_toArray, List.set_cons_zero, List.set_cons_succ]
            refine wpAnyH_take (i := 1) (v := ?v2) rfl (by kernel_rfl) (by kernel_rfl) (by kernel_rfl) (fun _ _ _ h => h) (Or.inl ⟨by rfl, ?hy2⟩) (by assumption) ?rest2
            case hy2 => (intro w hSw; (try dsimp only at hSw); obtain ⟨zq0, zq1, zq2⟩ := hSw; go_simp; (try with_reducible rfl))
            simp only [Act.put, List.getElem_toArray, List.getElem_cons_zero, List.getElem_cons_succ, List.setIfInBounds_toArray, List.set_cons_zero, List.set_cons_succ]
            refine wpAnyH_take (i := 3) (v := ?v3) rfl (by kernel_rfl) (by kernel_rfl) (by kernel_rfl) (fun _ _ _ h => h) (Or.inl ⟨by rfl, ?hy3⟩) (by assumption) ?rest3
            case hy3 => (intro w hSw; (try dsimp only at hSw); go_simp; (try with_reducible rfl))
            simp only [Act.put, List.getElem_toArray, List.getElem_cons_zero, List.getElem_cons_succ, List.setIfInBounds_toArray, List.set_cons_zero, List.set_cons_succ]
            refine wpAnyH_ready (rs := [2, 5]) (by kernel_rfl) (by simp) ?_
            refine AllReadyH.cons rfl (fun K hK => ?_) (AllReadyH.cons rfl (fun K hK => ?_) AllReadyH.nil)
            · skip
              simp only [List.getElem_toArray, List.getElem_cons_zero, List.getElem_cons_succ]
              go_simp
              refine hK.out _ _ (by (try dsimp only); exact ⟨c0, c1, c2⟩) (fun hHeld => ?_)
              clear hK K
              refine wpAnyH_take (i := 4) (v := ?v4) rfl (by kernel_rfl) (by kernel_rfl) (by kernel_rfl) (fun _ _ _ h => h) (Or.inl ⟨by rfl, ?hy4⟩) (by assumption) ?rest4
              case hy4 => (intro w hSw; (try dsimp only at hSw); go_simp; (try with_reducible rfl))
              simp only [Act.put, List.getElem_toArray, List.getElem_cons_zero, List.getElem_cons_succ, List.setIfInBounds_toArray, List.set_cons_zero, List.set_cons_succ]
              refine wpAnyH_ready (rs := [5]) (by kernel_rfl) (by simp) ?_
              refine AllReadyH.cons rfl (fun K hK => ?_) AllReadyH.nil
              simp only [List.getElem_toArray, List.getElem_cons_zero, List.getElem_cons_succ]
              go_simp
              refine hK.out _ _ (by (try dsimp only); exact ⟨s0, s1, s2⟩) (fun hHeld => ?_)
              clear hK K
              refine wpAnyH_take (i := 6) (v := ?v5) rfl (by kernel_rfl) (by kernel_rfl) (by kernel_rfl) (fun _ _ _ h => h) (Or.inl ⟨by rfl, ?hy5⟩) (by assumption) ?rest5
              case hy5 => (intro w hSw; (try dsimp only at hSw); go_simp; (try with_reducible rfl))
              simp only [Act.put, List.getElem_toArray, List.getElem_cons_zero, List.getElem_cons_succ, List.setIfInBounds_toArray, List.set_cons_zero, List.set_cons_succ]
              refine wpAnyH_ready (rs := [7]) (by kernel_rfl) (by simp) ?_
              refine AllReadyH.cons rfl (fun K hK => ?_) AllReadyH.nil
              simp only [List.getElem_toArray, List.getElem_cons_zero, List.getElem_cons_succ]
              go_simp
              refine hK.out _ _ (by (try dsimp only); exact ⟨u0, u1, u2⟩) (fun hHeld => ?_)
              clear hK K
              refine wpAnyH_done (by kernel_rfl) ?_ _
              go_wp2
              go_roundw
              case rel => exact ⟨1, N1 + 1, ys2, by omega, rfl, HRG.out.kept HGR.out (by simp; omega) (by simp), HMF.out, by omega, HYF, Lib.hid fun T => by have h1 := HINV.out T; have h2 := HWT.out T; have h3 := HST.out T; rw [h3] at h1; rw [h2]; simp only [Int.mul_add] at h1; omega, ⟨HGR.out.cell p0 (by simp; omega), HGR.out.cell p1 (by simp; omega), HGR.out.cell p2 (by simp; omega)⟩, HB.out.grown HGR.out (by omega) (fun k hk => by cases hk; omega), by have := HGR.out.size; omega⟩
              case measure => simp [intOf]
            · skip
              simp only [List.getElem_toArray, List.getElem_cons_zero, List.getElem_cons_succ]
              go_simp
              refine hK.out _ _ (by (try dsimp only); exact ⟨s0, s1, s2⟩) (fun hHeld => ?_)
              clear hK K
              refine wpAnyH_take (i := 6) (v := ?v6) rfl (by kernel_rfl) (by kernel_rfl) (by kernel_rfl) (fun _ _ _ h => h) (Or.inl ⟨by rfl, ?hy6⟩) (by assumption) ?rest6
              case hy6 => (intro w hSw; (try dsimp only at hSw); go_simp; (try with_reducible rfl))
              simp only [Act.put, List.getElem_toArray, List.getElem_cons_zero, List.getElem_cons_succ, List.setIfInBounds_toArray, List.set_cons_zero, List.set_cons_succ]
              refine wpAnyH_ready (rs := [2]) (by kernel_rfl) (by simp) ?_
              refine AllReadyH.cons rfl (fun K hK => ?_) AllReadyH.nil
              simp only [List.getElem_toArray, List.getElem_cons_zero, List.getElem_cons_succ]
              go_simp
              refine hK.out _ _ (by (try dsimp only); exact ⟨s0, s1, s2⟩) (fun hHeld => ?_)
              clear hK K
              refine wpAnyH_take (i := 4) (v := ?v7) rfl (by kernel_rfl) (by kernel_rfl) (by kernel_rfl) (fun _ _ _ h => h) (Or.inl ⟨by rfl, ?hy7⟩) (by assumption) ?rest7
              case hy7 => (intro w hSw; (try dsimp only at hSw); go_simp; (try with_reducible rfl))
              simp only [Act.put, List.getElem_toArray, List.getElem_cons_zero, List.getElem_cons_succ, List.setIfInBounds_toArray, List.set_cons_zero, List.set_cons_succ]
              refine wpAnyH_ready (rs := [7]) (by kernel_rfl) (by simp) ?_
              refine AllReadyH.cons rfl (fun K hK => ?_) AllReadyH.nil
              simp only [List.getElem_toArray, List.getElem_cons_zero, List.getElem_cons_succ]
              go_simp
              refine hK.out _ _ (by (try dsimp only); exact ⟨u0, u1, u2⟩) (fun hHeld => ?_)
              clear hK K
              refine wpAnyH_done (by kernel_rfl) ?_ _
              go_wp2
              go_roundw
              case rel => exact ⟨1, N1 + 1, ys2, by omega, rfl, HRG.out.kept HGR.out (by simp; omega) (by simp), HMF.out, by omega, HYF, Lib.hid fun T => by have h1 := HINV.out T; have h2 := HWT.out T; have h3 := HST.out T; rw [h3] at h1; rw [h2]; simp only [Int.mul_add] at h1; omega, ⟨HGR.out.cell p0 (by simp; omega), HGR.out.cell p1 (by simp; omega), HGR.out.cell p2 (by simp; omega)⟩, HB.out.grown HGR.out (by omega) (fun k hk => by cases hk; omega), by have := HGR.out.size; omega⟩
              case measure => simp [intOf]
          · have HA := Lib.hid (fun W hW => after_any g (x, y, d) 1 m W HG.out HP.out (by omega) (by omega) hW)
            rw [show signB 1 = 76 from rfl] at HA
            have hok := okP_next HG.out HP.out 1
            obtain ⟨kq, hkq⟩ := isKeyP_ok HG.out hok (by omega)
            have HST := Lib.hid (show ∀ T, fromT g T (x, y, d) 1 = T (nxtP g 1 (x, y, d)) + fromT g T (x, y, d) 2 from fun T => fromT_step g T (x, y, d) 1 (by omega))
            obtain ⟨q, hq⟩ : ∃ q, nxtP g 1 (x, y, d) = q := ⟨_, rfl⟩
            rw [hq] at HA hok hkq HST
            obtain ⟨qx, qy, qd⟩ := q
            simp only at HA
            have HOK := Lib.hid hok
            have HKQ := Lib.hid hkq
            clear hok hkq hq
            have ix : ∀ W, (Instr.index 139 (.agg #[.int .u8 70, .int .u8 76, .int .u8 82]) (.int .i64 1)).run Tryd.prog W = .ok (.int .u8 76) W := fun _ => by kernel_rfl
            go_wp2_with (first | (go_at_call 126; (refine (HA.out _ HWr.out).mono ?_); rintro e w3 ⟨rfl, hb3⟩; (have HB3 := Lib.hid hb3); (have hz3 := hb3.size); clear hb3))
            obtain ⟨wb, hwb⟩ : ∃ z : World, z = w3.alloc (.cells #[.int .i64 qx, .int .i64 qy, .int .i64 qd] 119) := ⟨_, rfl⟩
            have hbb : Below w3.heap.size w3 wb := by rw [hwb]; exact (Below.refl _ _).alloc (Nat.le_refl _) _
            have c0 : wb.cell? ⟨w3.heap.size, 0, none⟩ = some (.int .i64 qx) := by rw [hwb]; go_simp
            have c1 : wb.cell? ⟨w3.heap.size, 1, none⟩ = some (.int .i64 qy) := by rw [hwb]; go_simp
            have c2 : wb.cell? ⟨w3.heap.size, 2, none⟩ = some (.int .i64 qd) := by rw [hwb]; go_simp
            have hBb : Below wr.heap.size wr wb := HB3.out.trans (hbb.mono hz3)
            rw [← hwb]
            clear hwb
            have hMd : MapC wb.drew w.heap.size N1 ys1 := (HMy.out.later hBb).same rfl
            have hlk := look_le HY1.out (qx, qy, qd)
            have hwf : (Lit.int .i64 (look ys1 (qx, qy, qd) + c)).wf = true := WalkArith.wf_i64 (by omega)
            obtain ⟨st, o1, o2, r1, r2, r3, hM2⟩ := hMd.bump_run (by omega) HKQ.out c hwf
            have r0 := hMd.look_run HKQ.out
            have HMF := Lib.hid hM2
            have HYF := Lib.hid (allPos_bump HY1.out HOK.out (x := c) (by omega))
            have HWT := Lib.hid (fun T => wt_bump HY1.out.1 (qx, qy, qd) c T)
            obtain ⟨lk, hlk0⟩ : ∃ z, look ys1 (qx, qy, qd) = z := ⟨_, rfl⟩
            obtain ⟨ys2, hys2⟩ : ∃ z, bump ys1 (qx, qy, qd) c = z := ⟨_, rfl⟩
            rw [hlk0] at r0 r1 r2 r3 hlk
            rw [hys2] at HMF HYF HWT
            have hw4 : IntKind.i64.wrap (lk + c) = lk + c := wrapX _ (by omega)
            simp only [aggP] at r0 r1 r2 r3
            have hbo : w.heap.size < wb.drew.heap.size := hMd.lt
            have g1 := grown_setBlock (o := o1) hbo
            have g2 := grown_setBlock (w := Go.ChangeMaps.setBlock wb.drew w.heap.size o1) (o := o2) (Nat.lt_of_lt_of_le hbo g1.size)
            have nb : some w3.heap.size ≠ some w.heap.size := by simp; omega
            have s0 := g1.cell (show wb.drew.cell? ⟨w3.heap.size, 0, none⟩ = _ from c0) nb
            have s1 := g1.cell (show wb.drew.cell? ⟨w3.heap.size, 1, none⟩ = _ from c1) nb
            have s2 := g1.cell (show wb.drew.cell? ⟨w3.heap.size, 2, none⟩ = _ from c2) nb
            have u0 := g2.cell s0 nb
            have u1 := g2.cell s1 nb
            have u2 := g2.cell s2 nb
            have HGR := Lib.hid (show wr.grownBy (Go.ChangeMaps.setBlock (Go.ChangeMaps.setBlock wb.drew w.heap.size o1) w.heap.size o2) (some w.heap.size) from (grownOfBelow hBb (some w.heap.size)).trans ((show wb.grownBy wb.drew (some w.heap.size) from ⟨rfl, rfl, rfl, Nat.le_refl _, fun _ _ _ => rfl⟩).trans (g1.trans g2)))
            clear hMd hM2 hlk0 hys2 hbo g1 g2 nb hwf hBb hbb
            refine wp_region_held_drew (S := fun w' => w'.cell? ⟨w3.heap.size, 0, none⟩ = some (.int .i64 qx) ∧ w'.cell? ⟨w3.heap.size, 1, none⟩ = some (.int .i64 qy) ∧ w'.cell? ⟨w3.heap.size, 2, none⟩ = some (.int .i64 qd)) (by kernel_rfl) (by (try dsimp only); exact ⟨c0, c1, c2⟩) (fun hHeld => ?_)
            refine wpAnyH_take (i := 0) (v := ?v8) rfl (by kernel_rfl) (by kernel_rfl) (by kernel_rfl) (fun _ _ _ h => h) (Or.inl ⟨by rfl, ?hy8⟩) (by assumption) ?rest8
            case hy8 => (intro w hSw; (try dsimp only at hSw); go_simp; (try with_reducible rfl))
            simp only [Act.put, List.getElem_toArray, List.getElem_cons_zero, List.setIfInBounds_toArray, List.set_cons_zero, List.set_cons_succ]
            refine wpAnyH_take (i := 1) (v := ?v9) rfl (by kernel_rfl) (by kernel_rfl) (by kernel_rfl) (fun _ _ _ h => h) (Or.inl ⟨by rfl, ?hy9⟩) (by assumption) ?rest9
            case hy9 => (intro w hSw; (try dsimp only at hSw); obtain ⟨zq0, zq1, zq2⟩ := hSw; go_simp; (try with_reducible rfl))
            simp only [Act.put, List.getElem_toArray, List.getElem_cons_zero, List.getElem_cons_succ, List.setIfInBounds_toArray, List.set_cons_zero, List.set_cons_succ]
            refine wpAnyH_take (i := 3) (v := ?v10) rfl (by kernel_rfl) (by kernel_rfl) (by kernel_rfl) (fun _ _ _ h => h) (Or.inl ⟨by rfl, ?hy10⟩) (by assumption) ?rest10
            case hy10 => (intro w hSw; (try dsimp only at hSw); go_simp; (try with_reducible rfl))
            simp only [Act.put, List.getElem_toArray, List.getElem_cons_zero, List.getElem_cons_succ, List.setIfInBounds_toArray, List.set_cons_zero, List.set_cons_succ]
            refine wpAnyH_ready (rs := [2, 5]) (by kernel_rfl) (by simp) ?_
            refine AllReadyH.cons rfl (fun K hK => ?_) (AllReadyH.cons rfl (fun K hK => ?_) AllReadyH.nil)
            · skip
              simp only [List.getElem_toArray, List.getElem_cons_zero, List.getElem_cons_succ]
              go_simp
              refine hK.out _ _ (by (try dsimp only); exact ⟨c0, c1, c2⟩) (fun hHeld => ?_)
              clear hK K
              refine wpAnyH_take (i := 4) (v := ?v11) rfl (by kernel_rfl) (by kernel_rfl) (by kernel_rfl) (fun _ _ _ h => h) (Or.inl ⟨by rfl, ?hy11⟩) (by assumption) ?rest11
              case hy11 => (intro w hSw; (try dsimp only at hSw); go_simp; (try with_reducible rfl))
              simp only [Act.put, List.getElem_toArray, List.getElem_cons_zero, List.getElem_cons_succ, List.setIfInBounds_toArray, List.set_cons_zero, List.set_cons_succ]
              refine wpAnyH_ready (rs := [5]) (by kernel_rfl) (by simp) ?_
              refine AllReadyH.cons rfl (fun K hK => ?_) AllReadyH.nil
              simp only [List.getElem_toArray, List.getElem_cons_zero, List.getElem_cons_succ]
              go_simp
              refine hK.out _ _ (by (try dsimp only); exact ⟨s0, s1, s2⟩) (fun hHeld => ?_)
              clear hK K
              refine wpAnyH_take (i := 6) (v := ?v12) rfl (by kernel_rfl) (by kernel_rfl) (by kernel_rfl) (fun _ _ _ h => h) (Or.inl ⟨by rfl, ?hy12⟩) (by assumption) ?rest12
              case hy12 => (intro w hSw; (try dsimp only at hSw); go_simp; (try with_reducible rfl))
              simp only [Act.put, List.getElem_toArray, List.getElem_cons_zero, List.getElem_cons_succ, List.setIfInBounds_toArray, List.set_cons_zero, List.set_cons_succ]
              refine wpAnyH_ready (rs := [7]) (by kernel_rfl) (by simp) ?_
              refine AllReadyH.cons rfl (fun K hK => ?_) AllReadyH.nil
              simp only [List.getElem_toArray, List.getElem_cons_zero, List.getElem_cons_succ]
              go_simp
              refine hK.out _ _ (by (try dsimp only); exact ⟨u0, u1, u2⟩) (fun hHeld => ?_)
              clear hK K
              refine wpAnyH_done (by kernel_rfl) ?_ _
              go_wp2
              go_roundw
              case rel => exact ⟨2, N1 + 1, ys2, by omega, rfl, HRG.out.kept HGR.out (by simp; omega) (by simp), HMF.out, by omega, HYF, Lib.hid fun T => by have h1 := HINV.out T; have h2 := HWT.out T; have h3 := HST.out T; rw [h3] at h1; rw [h2]; simp only [Int.mul_add] at h1; omega, ⟨HGR.out.cell p0 (by simp; omega), HGR.out.cell p1 (by simp; omega), HGR.out.cell p2 (by simp; omega)⟩, HB.out.grown HGR.out (by omega) (fun k hk => by cases hk; omega), by have := HGR.out.size; omega⟩
              case measure => simp [intOf]
            · skip
              simp only [List.getElem_toArray, List.getElem_cons_zero, List.getElem_cons_succ]
              go_simp
              refine hK.out _ _ (by (try dsimp only); exact ⟨s0, s1, s2⟩) (fun hHeld => ?_)
              clear hK K
              refine wpAnyH_take (i := 6) (v := ?v13) rfl (by kernel_rfl) (by kernel_rfl) (by kernel_rfl) (fun _ _ _ h => h) (Or.inl ⟨by rfl, ?hy13⟩) (by assumption) ?rest13
              case hy13 => (intro w hSw; (try dsimp only at hSw); go_simp; (try with_reducible rfl))
              simp only [Act.put, List.getElem_toArray, List.getElem_cons_zero, List.getElem_cons_succ, List.setIfInBounds_toArray, List.set_cons_zero, List.set_cons_succ]
              refine wpAnyH_ready (rs := [2]) (by kernel_rfl) (by simp) ?_
              refine AllReadyH.cons rfl (fun K hK => ?_) AllReadyH.nil
              simp only [List.getElem_toArray, List.getElem_cons_zero, List.getElem_cons_succ]
              go_simp
              refine hK.out _ _ (by (try dsimp only); exact ⟨s0, s1, s2⟩) (fun hHeld => ?_)
              clear hK K
              refine wpAnyH_take (i := 4) (v := ?v14) rfl (by kernel_rfl) (by kernel_rfl) (by kernel_rfl) (fun _ _ _ h => h) (Or.inl ⟨by rfl, ?hy14⟩) (by assumption) ?rest14
              case hy14 => (intro w hSw; (try dsimp only at hSw); go_simp; (try with_reducible rfl))
              simp only [Act.put, List.getElem_toArray, List.getElem_cons_zero, List.getElem_cons_succ, List.setIfInBounds_toArray, List.set_cons_zero, List.set_cons_succ]
              refine wpAnyH_ready (rs := [7]) (by kernel_rfl) (by simp) ?_
              refine AllReadyH.cons rfl (fun K hK => ?_) AllReadyH.nil
              simp only [List.getElem_toArray, List.getElem_cons_zero, List.getElem_cons_succ]
              go_simp
              refine hK.out _ _ (by (try dsimp only); exact ⟨u0, u1, u2⟩) (fun hHeld => ?_)
              clear hK K
              refine wpAnyH_done (by kernel_rfl) ?_ _
              go_wp2
              go_roundw
              case rel => exact ⟨2, N1 + 1, ys2, by omega, rfl, HRG.out.kept HGR.out (by simp; omega) (by simp), HMF.out, by omega, HYF, Lib.hid fun T => by have h1 := HINV.out T; have h2 := HWT.out T; have h3 := HST.out T; rw [h3] at h1; rw [h2]; simp only [Int.mul_add] at h1; omega, ⟨HGR.out.cell p0 (by simp; omega), HGR.out.cell p1 (by simp; omega), HGR.out.cell p2 (by simp; omega)⟩, HB.out.grown HGR.out (by omega) (fun k hk => by cases hk; omega), by have := HGR.out.size; omega⟩
              case measure => simp [intOf]
          · have HA := Lib.hid (fun W hW => after_any g (x, y, d) 2 m W HG.out HP.out (by omega) (by omega) hW)
            rw [show signB 2 = 82 from rfl] at HA
            have hok := okP_next HG.out HP.out 2
            obtain ⟨kq, hkq⟩ := isKeyP_ok HG.out hok (by omega)
            have HST := Lib.hid (show ∀ T, fromT g T (x, y, d) 2 = T (nxtP g 2 (x, y, d)) + fromT g T (x, y, d) 3 from fun T => fromT_step g T (x, y, d) 2 (by omega))
            obtain ⟨q, hq⟩ : ∃ q, nxtP g 2 (x, y, d) = q := ⟨_, rfl⟩
            rw [hq] at HA hok hkq HST
            obtain ⟨qx, qy, qd⟩ := q
            simp only at HA
            have HOK := Lib.hid hok
            have HKQ := Lib.hid hkq
            clear hok hkq hq
            have ix : ∀ W, (Instr.index 139 (.agg #[.int .u8 70, .int .u8 76, .int .u8 82]) (.int .i64 2)).run Tryd.prog W = .ok (.int .u8 82) W := fun _ => by kernel_rfl
            go_wp2_with (first | (go_at_call 126; (refine (HA.out _ HWr.out).mono ?_); rintro e w3 ⟨rfl, hb3⟩; (have HB3 := Lib.hid hb3); (have hz3 := hb3.size); clear hb3))
            obtain ⟨wb, hwb⟩ : ∃ z : World, z = w3.alloc (.cells #[.int .i64 qx, .int .i64 qy, .int .i64 qd] 119) := ⟨_, rfl⟩
            have hbb : Below w3.heap.size w3 wb := by rw [hwb]; exact (Below.refl _ _).alloc (Nat.le_refl _) _
            have c0 : wb.cell? ⟨w3.heap.size, 0, none⟩ = some (.int .i64 qx) := by rw [hwb]; go_simp
            have c1 : wb.cell? ⟨w3.heap.size, 1, none⟩ = some (.int .i64 qy) := by rw [hwb]; go_simp
            have c2 : wb.cell? ⟨w3.heap.size, 2, none⟩ = some (.int .i64 qd) := by rw [hwb]; go_simp
            have hBb : Below wr.heap.size wr wb := HB3.out.trans (hbb.mono hz3)
            rw [← hwb]
            clear hwb
            have hMd : MapC wb.drew w.heap.size N1 ys1 := (HMy.out.later hBb).same rfl
            have hlk := look_le HY1.out (qx, qy, qd)
            have hwf : (Lit.int .i64 (look ys1 (qx, qy, qd) + c)).wf = true := WalkArith.wf_i64 (by omega)
            obtain ⟨st, o1, o2, r1, r2, r3, hM2⟩ := hMd.bump_run (by omega) HKQ.out c hwf
            have r0 := hMd.look_run HKQ.out
            have HMF := Lib.hid hM2
            have HYF := Lib.hid (allPos_bump HY1.out HOK.out (x := c) (by omega))
            have HWT := Lib.hid (fun T => wt_bump HY1.out.1 (qx, qy, qd) c T)
            obtain ⟨lk, hlk0⟩ : ∃ z, look ys1 (qx, qy, qd) = z := ⟨_, rfl⟩
            obtain ⟨ys2, hys2⟩ : ∃ z, bump ys1 (qx, qy, qd) c = z := ⟨_, rfl⟩
            rw [hlk0] at r0 r1 r2 r3 hlk
            rw [hys2] at HMF HYF HWT
            have hw4 : IntKind.i64.wrap (lk + c) = lk + c := wrapX _ (by omega)
            simp only [aggP] at r0 r1 r2 r3
            have hbo : w.heap.size < wb.drew.heap.size := hMd.lt
            have g1 := grown_setBlock (o := o1) hbo
            have g2 := grown_setBlock (w := Go.ChangeMaps.setBlock wb.drew w.heap.size o1) (o := o2) (Nat.lt_of_lt_of_le hbo g1.size)
            have nb : some w3.heap.size ≠ some w.heap.size := by simp; omega
            have s0 := g1.cell (show wb.drew.cell? ⟨w3.heap.size, 0, none⟩ = _ from c0) nb
            have s1 := g1.cell (show wb.drew.cell? ⟨w3.heap.size, 1, none⟩ = _ from c1) nb
            have s2 := g1.cell (show wb.drew.cell? ⟨w3.heap.size, 2, none⟩ = _ from c2) nb
            have u0 := g2.cell s0 nb
            have u1 := g2.cell s1 nb
            have u2 := g2.cell s2 nb
            have HGR := Lib.hid (show wr.grownBy (Go.ChangeMaps.setBlock (Go.ChangeMaps.setBlock wb.drew w.heap.size o1) w.heap.size o2) (some w.heap.size) from (grownOfBelow hBb (some w.heap.size)).trans ((show wb.grownBy wb.drew (some w.heap.size) from ⟨rfl, rfl, rfl, Nat.le_refl _, fun _ _ _ => rfl⟩).trans (g1.trans g2)))
            clear hMd hM2 hlk0 hys2 hbo g1 g2 nb hwf hBb hbb
            refine wp_region_held_drew (S := fun w' => w'.cell? ⟨w3.heap.size, 0, none⟩ = some (.int .i64 qx) ∧ w'.cell? ⟨w3.heap.size, 1, none⟩ = some (.int .i64 qy) ∧ w'.cell? ⟨w3.heap.size, 2, none⟩ = some (.int .i64 qd)) (by kernel_rfl) (by (try dsimp only); exact ⟨c0, c1, c2⟩) (fun hHeld => ?_)
            refine wpAnyH_take (i := 0) (v := ?v15) rfl (by kernel_rfl) (by kernel_rfl) (by kernel_rfl) (fun _ _ _ h => h) (Or.inl ⟨by rfl, ?hy15⟩) (by assumption) ?rest15
            case hy15 => (intro w hSw; (try dsimp only at hSw); go_simp; (try with_reducible rfl))
            simp only [Act.put, List.getElem_toArray, List.getElem_cons_zero, List.setIfInBounds_toArray, List.set_cons_zero, List.set_cons_succ]
            refine wpAnyH_take (i := 1) (v := ?v16) rfl (by kernel_rfl) (by kernel_rfl) (by kernel_rfl) (fun _ _ _ h => h) (Or.inl ⟨by rfl, ?hy16⟩) (by assumption) ?rest16
            case hy16 => (intro w hSw; (try dsimp only at hSw); obtain ⟨zq0, zq1, zq2⟩ := hSw; go_simp; (try with_reducible rfl))
            simp only [Act.put, List.getElem_toArray, List.getElem_cons_zero, List.getElem_cons_succ, List.setIfInBounds_toArray, List.set_cons_zero, List.set_cons_succ]
            refine wpAnyH_take (i := 3) (v := ?v17) rfl (by kernel_rfl) (by kernel_rfl) (by kernel_rfl) (fun _ _ _ h => h) (Or.inl ⟨by rfl, ?hy17⟩) (by assumption) ?rest17
            case hy17 => (intro w hSw; (try dsimp only at hSw); go_simp; (try with_reducible rfl))
            simp only [Act.put, List.getElem_toArray, List.getElem_cons_zero, List.getElem_cons_succ, List.setIfInBounds_toArray, List.set_cons_zero, List.set_cons_succ]
            refine wpAnyH_ready (rs := [2, 5]) (by kernel_rfl) (by simp) ?_
            refine AllReadyH.cons rfl (fun K hK => ?_) (AllReadyH.cons rfl (fun K hK => ?_) AllReadyH.nil)
            · skip
              simp only [List.getElem_toArray, List.getElem_cons_zero, List.getElem_cons_succ]
              go_simp
              refine hK.out _ _ (by (try dsimp only); exact ⟨c0, c1, c2⟩) (fun hHeld => ?_)
              clear hK K
              refine wpAnyH_take (i := 4) (v := ?v18) rfl (by kernel_rfl) (by kernel_rfl) (by kernel_rfl) (fun _ _ _ h => h) (Or.inl ⟨by rfl, ?hy18⟩) (by assumption) ?rest18
              case hy18 => (intro w hSw; (try dsimp only at hSw); go_simp; (try with_reducible rfl))
              simp only [Act.put, List.getElem_toArray, List.getElem_cons_zero, List.getElem_cons_succ, List.setIfInBounds_toArray, List.set_cons_zero, List.set_cons_succ]
              refine wpAnyH_ready (rs := [5]) (by kernel_rfl) (by simp) ?_
              refine AllReadyH.cons rfl (fun K hK => ?_) AllReadyH.nil
              simp only [List.getElem_toArray, List.getElem_cons_zero, List.getElem_cons_succ]
              go_simp
              refine hK.out _ _ (by (try dsimp only); exact ⟨s0, s1, s2⟩) (fun hHeld => ?_)
              clear hK K
              refine wpAnyH_take (i := 6) (v := ?v19) rfl (by kernel_rfl) (by kernel_rfl) (by kernel_rfl) (fun _ _ _ h => h) (Or.inl ⟨by rfl, ?hy19⟩) (by assumption) ?rest19
              case hy19 => (intro w hSw; (try dsimp only at hSw); go_simp; (try with_reducible rfl))
              simp only [Act.put, List.getElem_toArray, List.getElem_cons_zero, List.getElem_cons_succ, List.setIfInBounds_toArray, List.set_cons_zero, List.set_cons_succ]
              refine wpAnyH_ready (rs := [7]) (by kernel_rfl) (by simp) ?_
              refine AllReadyH.cons rfl (fun K hK => ?_) AllReadyH.nil
              simp only [List.getElem_toArray, List.getElem_cons_zero, List.getElem_cons_succ]
              go_simp
              refine hK.out _ _ (by (try dsimp only); exact ⟨u0, u1, u2⟩) (fun hHeld => ?_)
              clear hK K
              refine wpAnyH_done (by kernel_rfl) ?_ _
              go_wp2
              go_roundw
              case rel => exact ⟨3, N1 + 1, ys2, by omega, rfl, HRG.out.kept HGR.out (by simp; omega) (by simp), HMF.out, by omega, HYF, Lib.hid fun T => by have h1 := HINV.out T; have h2 := HWT.out T; have h3 := HST.out T; rw [h3] at h1; rw [h2]; simp only [Int.mul_add] at h1; omega, ⟨HGR.out.cell p0 (by simp; omega), HGR.out.cell p1 (by simp; omega), HGR.out.cell p2 (by simp; omega)⟩, HB.out.grown HGR.out (by omega) (fun k hk => by cases hk; omega), by have := HGR.out.size; omega⟩
              case measure => simp [intOf]
            · skip
              simp only [List.getElem_toArray, List.getElem_cons_zero, List.getElem_cons_succ]
              go_simp
              refine hK.out _ _ (by (try dsimp only); exact ⟨s0, s1, s2⟩) (fun hHeld => ?_)
              clear hK K
              refine wpAnyH_take (i := 6) (v := ?v20) rfl (by kernel_rfl) (by kernel_rfl) (by kernel_rfl) (fun _ _ _ h => h) (Or.inl ⟨by rfl, ?hy20⟩) (by assumption) ?rest20
              case hy20 => (intro w hSw; (try dsimp only at hSw); go_simp; (try with_reducible rfl))
              simp only [Act.put, List.getElem_toArray, List.getElem_cons_zero, List.getElem_cons_succ, List.setIfInBounds_toArray, List.set_cons_zero, List.set_cons_succ]
              refine wpAnyH_ready (rs := [2]) (by kernel_rfl) (by simp) ?_
              refine AllReadyH.cons rfl (fun K hK => ?_) AllReadyH.nil
              simp only [List.getElem_toArray, List.getElem_cons_zero, List.getElem_cons_succ]
              go_simp
              refine hK.out _ _ (by (try dsimp only); exact ⟨s0, s1, s2⟩) (fun hHeld => ?_)
              clear hK K
              refine wpAnyH_take (i := 4) (v := ?v21) rfl (by kernel_rfl) (by kernel_rfl) (by kernel_rfl) (fun _ _ _ h => h) (Or.inl ⟨by rfl, ?hy21⟩) (by assumption) ?rest21
              case hy21 => (intro w hSw; (try dsimp only at hSw); go_simp; (try with_reducible rfl))
              simp only [Act.put, List.getElem_toArray, List.getElem_cons_zero, List.getElem_cons_succ, List.setIfInBounds_toArray, List.set_cons_zero, List.set_cons_succ]
              refine wpAnyH_ready (rs := [7]) (by kernel_rfl) (by simp) ?_
              refine AllReadyH.cons rfl (fun K hK => ?_) AllReadyH.nil
              simp only [List.getElem_toArray, List.getElem_cons_zero, List.getElem_cons_succ]
              go_simp
              refine hK.out _ _ (by (try dsimp only); exact ⟨u0, u1, u2⟩) (fun hHeld => ?_)
              clear hK K
              refine wpAnyH_done (by kernel_rfl) ?_ _
              go_wp2
              go_roundw
              case rel => exact ⟨3, N1 + 1, ys2, by omega, rfl, HRG.out.kept HGR.out (by simp; omega) (by simp), HMF.out, by omega, HYF, Lib.hid fun T => by have h1 := HINV.out T; have h2 := HWT.out T; have h3 := HST.out T; rw [h3] at h1; rw [h2]; simp only [Int.mul_add] at h1; omega, ⟨HGR.out.cell p0 (by simp; omega), HGR.out.cell p1 (by simp; omega), HGR.out.cell p2 (by simp; omega)⟩, HB.out.grown HGR.out (by omega) (fun k hk => by cases hk; omega), by have := HGR.out.size; omega⟩
              case measure => simp [intOf]
        · obtain rfl : j = 3 := by omega
          have HIE := Lib.hid (show ∀ T, wt ys1 T + wt (restC xs left1) (moreT g T) = wt xs (moreT g T) from fun T => by have h1 := HINV.out T; rw [show fromT g T (x, y, d) 3 = 0 from rfl] at h1; omega)
          go_wp2
          go_roundw
          case rel => exact ⟨left1, cnt1, ys1, N1, HRG.out, HMy.out, by have := HLT.out; omega, HY1, HIE, HB.out, by omega⟩
          case measure => rw [HRG.out.left_eq, HRGo.out.left_eq]; exact HLT.out

end Go.Proofs.YtbgcbokddldmkaaDoor
