/- Groups: the model gathers them. -/
import Derived.Test.YtinjldakmjganaaG5
import Derived.Test.YtinjldakmjganaaG6
namespace Go.Proofs.Ytinjldakmjganaa
open Go.RowKit
set_option linter.unusedVariables false
set_option maxHeartbeats 8000000 in
set_option maxRecDepth 100000 in
theorem cdGroups_any (u : Value) (xs : List (Int × Int)) (B T : Nat) (w : World) (h : PairsIn 48 w B T u xs) (hT : T ≤ w.heap.size) (hn : xs.length ≤ 40) (hc : ∀ k, k < xs.length → (xs.getD k (0, 0)).1 < (xs.getD k (0, 0)).2) :
    Calls Try.prog 26 #[u] w fun e w' => e = .returned (.tuple #[.slice (some ⟨w.heap.size, 0, none⟩) xs.length xs.length, .slice (some ⟨w.heap.size + 1, 0, none⟩) xs.length xs.length]) ∧ ArrAt 3 w' w.heap.size (rootsL xs.length (outerK (crL xs) xs.length xs.length).1) ∧ ArrAt 3 w' (w.heap.size + 1) (distsL xs.length (outerK (crL xs) xs.length xs.length).1) ∧ Below w.heap.size w w' ∧ (∀ i, distT (outerK (crL xs) xs.length xs.length).1 i ≤ 41 * 41) := by
  obtain ⟨a1, c1, g1, rfl, ha1, hmm, hx1, hy1⟩ := h.pairs.view
  have HA := Lib.hid ha1
  have X := Lib.hid hx1
  have Y := Lib.hid hy1
  have HC := Lib.hid hc
  have hmk := make_ints (P := Try.prog) Try.underlying36 info_int xs.length (by omega)
  clear h ha1 hx1 hy1 hmm hc
  go_enter Try.func26, Try.ntmps26
  go_wp2
  clear hmk
  go_loopw [19] (fun i wr => ∃ k : Nat, k ≤ xs.length ∧ i = .int .i64 k ∧ ArrAt 3 wr w.heap.size (fillTo (fun _ => -1) xs.length k) ∧ ArrAt 3 wr (w.heap.size + 1) (List.replicate xs.length 0) ∧ Below w.heap.size w wr) (fun i _ => xs.length - (intOf i).toNat)
  case atStart => exact ⟨0, by omega, rfl, by rw [fillTo_zero, zeroInts_cells]; exact (ArrAt.new 3 w _).alloc _, by rw [zeroInts_cells]; have := ArrAt.new 3 (w.alloc (.cells (intCells (List.replicate xs.length 0)) 3)) (List.replicate xs.length 0); rw [World.size_alloc] at this; exact this, by go_grown⟩
  case round =>
    obtain ⟨k, hk, rfl, hr, hd, hB⟩ := hrel
    by_cases hlt : k < xs.length
    · have hfz := hr.frozen k
      have hk1 : 0 ≤ (k : Int) := by omega
      have hk2 : (k : Int) < (xs.length : Int) := by omega
      have hcc := hr.cell k (by rw [fillTo_length _ _ _ hk]; exact hlt)
      have hw1 : IntKind.i64.wrap ((k : Int) + 1) = ((k + 1 : Nat) : Int) := by rw [IntKind.wrap_i64]; omega
      have hr' := hr.stored k (-1)
      rw [fillTo_set (fun _ => -1) _ _ hlt] at hr'
      have HR := Lib.hid hr'
      have HD := Lib.hid (hd.other (b := w.heap.size) (o := k) (.int .i64 (-1)) (by omega))
      have HB := Lib.hid (hB.trans ((Only.setCell wr w.heap.size k (.int .i64 (-1))).below (Nat.le_refl _) hB.size))
      clear hr hr' hd hB
      go_wp2
      go_roundw
      case rel => exact ⟨k + 1, by omega, by go_num, HR.out, HD.out, HB.out⟩
      case measure => simp [intOf]; omega
    · obtain rfl : k = xs.length := by omega
      rw [fillTo_all, rootsL_none] at hr
      rw [distsL_none] at hd
      have HR0 := Lib.hid hr
      have HD0 := Lib.hid hd
      have HB0 := Lib.hid hB
      obtain ⟨wz, rfl⟩ : ∃ z, z = wr := ⟨wr, rfl⟩
      clear hr hd hB
      go_wp2
      go_loopw [28] (fun i wr => ∃ k : Nat, k ≤ xs.length ∧ i = .int .i64 k ∧ ArrAt 3 wr w.heap.size (rootsL xs.length (outerK (crL xs) xs.length k).1) ∧ ArrAt 3 wr (w.heap.size + 1) (distsL xs.length (outerK (crL xs) xs.length k).1) ∧ Below w.heap.size w wr ∧ (∀ i, distT (outerK (crL xs) xs.length k).1 i ≤ 41 * k)) (fun i _ => xs.length - (intOf i).toNat)
      case atStart => exact ⟨0, by omega, rfl, HR0.out, HD0.out, HB0.out, fun i => by
        rw [outerK_zero, distT_none (by
          by_cases h : i < xs.length
          · simp [labT, h]
          · exact labT_none (by simp; omega))]
        omega⟩
      case round =>
        obtain ⟨wo, rfl⟩ : ∃ z, z = wr := ⟨wr, rfl⟩
        obtain ⟨k, hk, rfl, hr, hd, hB, hbd⟩ := hrel
        have hz := hd.lt
        clear HR0 HD0 HB0
        by_cases hlt : k < xs.length
        · obtain rfl := HA.out (by omega)
          have hO := outI (crL xs) xs.length k hk
          have hstep := outerK_succ (crL xs) xs.length k
          obtain ⟨E, hE⟩ : ∃ E, E = outerK (crL xs) xs.length k := ⟨_, rfl⟩
          rw [← hE] at hO hstep hr hd hbd
          obtain ⟨M, G⟩ := E
          simp only at hr hd hbd
          have hcz := hr.cell k (by rw [rootsL_length]; exact hlt)
          rw [rootsL_get _ _ _ hlt] at hcz
          have hfz := hr.frozen k
          have hk1 : 0 ≤ (k : Int) := by omega
          have hk2 : (k : Int) < (xs.length : Int) := by omega
          have hw1 : IntKind.i64.wrap ((k : Int) + 1) = ((k + 1 : Nat) : Int) := by rw [IntKind.wrap_i64]; omega
          have HR := Lib.hid hr
          have HD := Lib.hid hd
          have HB := Lib.hid hB
          have HOI := Lib.hid hO
          have HST := Lib.hid hstep
          have HBD := Lib.hid hbd
          clear hr hd hB hO hstep hE hbd
          by_cases hnn : labT M k = none
          · rw [rootV_none hnn] at hcz
            have HNN := Lib.hid hnn
            clear hnn
            have HQ0 := Lib.hid (InvQ.start HOI.out.len k hlt HNN.out)
            have hboxed := Ints.boxed (wo.setCell ⟨w.heap.size, k, none⟩ (.int .i64 (k : Int))) wo.heap.size 3 [(k : Int)] (by simp) (by simp)
            rw [World.size_setCell] at hboxed
            have HBX := Lib.hid (show Ints ((wo.setCell ⟨w.heap.size, k, none⟩ (.int .i64 (k : Int))).alloc (.cells #[.int .i64 (k : Int)] 3)) wo.heap.size 3 (.slice (some ⟨wo.heap.size, 0, none⟩) 1 1) (natsI [k]) from hboxed)
            have h91 := HR.out.stored k (k : Int)
            rw [rootsL_set _ _ HOI.out.len k k 0 hlt] at h91
            have h92 := HD.out.other (b := w.heap.size) (o := k) (.int .i64 (k : Int)) (by omega)
            rw [distsL_zero _ _ HOI.out.len k k hlt HNN.out] at h92
            have hba : Below (wo.setCell ⟨w.heap.size, k, none⟩ (.int .i64 (k : Int))).heap.size (wo.setCell ⟨w.heap.size, k, none⟩ (.int .i64 (k : Int))) ((wo.setCell ⟨w.heap.size, k, none⟩ (.int .i64 (k : Int))).alloc (.cells #[.int .i64 (k : Int)] 3)) := (Below.refl _ _).alloc (Nat.le_refl _) _
            have H91 := Lib.hid (h91.keep hba)
            have H92 := Lib.hid (h92.keep hba)
            have HB1 := Lib.hid (HB.out.trans (((Only.setCell wo w.heap.size k (.int .i64 (k : Int))).more hba).below (Nat.le_refl _) (by omega)))
            have HBD1 := Lib.hid (show ∀ i, distT (M.set k (some (k, 0))) i ≤ 41 * k + 0 from fun i => distT_set_le HBD.out (by rw [HOI.out.len]; exact hlt) (by omega) i)
            clear hboxed h91 h92 hba
            go_wp2
            go_loopw [8, 9] (fun q t wr => ∃ (j : Nat) (S : LabT × List Nat), t = .int .i64 j ∧ j ≤ S.2.length ∧ InvQ xs.length k M S ∧ runQ (crL xs) xs.length k (xs.length + 1 - j) j S = gatherQ (crL xs) xs.length M k ∧ Ints wr wo.heap.size 3 q (natsI S.2) ∧ ArrAt 3 wr w.heap.size (rootsL xs.length S.1) ∧ ArrAt 3 wr (w.heap.size + 1) (distsL xs.length S.1) ∧ Below w.heap.size w wr ∧ wo.heap.size ≤ wr.heap.size ∧ (∀ i, distT S.1 i ≤ 41 * k + j)) (fun _ t _ => xs.length + 1 - (intOf t).toNat)
            case atStart => exact ⟨0, (M.set k (some (k, 0)), [k]), rfl, by simp, HQ0.out, rfl, HBX.out, H91.out, H92.out, HB1.out, by simp, HBD1.out⟩
            case round =>
              obtain ⟨wp, rfl⟩ : ∃ z, z = wr := ⟨wr, rfl⟩
              obtain ⟨j, S, rfl, hj, hQ, hrun, hI, h9, h9d, hBj, hzj, hbd⟩ := hrel
              have hq40 := hQ.few
              obtain ⟨a2, cap2, g2, rfl, ha2, hn2, hml, hg2, hcell, hfr⟩ := hI.view
              rw [natsI_length] at ha2 hg2 hcell hfr hI hml
              have HI := Lib.hid hI
              have H9J := Lib.hid h9
              have H9D := Lib.hid h9d
              have HBJ := Lib.hid hBj
              have HRUN := Lib.hid hrun
              have HQ := Lib.hid hQ
              have HBDJ := Lib.hid hbd
              clear hI h9 h9d hBj hrun hml hn2 hfr HBX H91 H92 HB1 HQ0 HBD1 hbd hcell ha2 hg2
              rw [natsI_length]
              by_cases hjl : j < S.2.length
              · obtain ⟨hfn, hfl⟩ := hQ.at j hjl
                have hgo := runQ_go (crL xs) xs.length k j S hjl hq40
                obtain ⟨f, hf⟩ : ∃ f, f = S.2.getD j 0 := ⟨_, rfl⟩
                obtain ⟨d, hd⟩ : ∃ d, d = distT S.1 f := ⟨_, rfl⟩
                rw [← hf] at hfn hfl hgo
                rw [← hd] at hgo
                have HF := Lib.hid hf
                have HDD := Lib.hid hd
                have HGO := Lib.hid hgo
                have HFL := Lib.hid hfl
                have hdle : d ≤ 41 * k + j := by rw [hd]; exact HBDJ.out f
                have hj1 : 0 ≤ (j : Int) := by omega
                have hwj : IntKind.i64.wrap ((j : Int) + 1) = ((j + 1 : Nat) : Int) := by rw [IntKind.wrap_i64]; omega
                have hwd : IntKind.i64.wrap ((d : Int) + 1) = (d : Int) + 1 := by rw [IntKind.wrap_i64]; omega
                clear hf hd hgo hfl hQ
                go_wp2
                go_loopw [8, 50] (fun q t wr => ∃ i : Nat, t = .int .i64 i ∧ i ≤ xs.length ∧ Ints wr wo.heap.size 3 q (natsI (reachK (crL xs) k d f S i).2) ∧ ArrAt 3 wr w.heap.size (rootsL xs.length (reachK (crL xs) k d f S i).1) ∧ ArrAt 3 wr (w.heap.size + 1) (distsL xs.length (reachK (crL xs) k d f S i).1) ∧ Below w.heap.size w wr ∧ wo.heap.size ≤ wr.heap.size ∧ (∀ a, distT (reachK (crL xs) k d f S i).1 a ≤ 41 * k + j + 1)) (fun _ t _ => xs.length - (intOf t).toNat)
                case atStart => exact ⟨0, rfl, by omega, HI.out, H9J.out, H9D.out, HBJ.out, hzj, fun a => Nat.le_succ_of_le (HBDJ.out a)⟩
                case round =>
                  obtain ⟨i, rfl, hi, hI, h9, h9d, hBi, hzi, hbd⟩ := hrel
                  by_cases hilt : i < xs.length
                  · obtain ⟨hpre, hjR⟩ := reachK_pre (crL xs) k d f S i j hjl
                    have hstp := reachK_succ (crL xs) k d f S i
                    have hlens := reachK_len (crL xs) k d f S i
                    have hkp := distT_keep (i := f) (fun x e => reachK_keep (crL xs) k d f S i f x e) HFL.out
                    have hQR := HQ.out.reach (crL xs) d f i hi
                    obtain ⟨R, hR⟩ : ∃ R, R = reachK (crL xs) k d f S i := ⟨_, rfl⟩
                    rw [← hR] at hI h9 h9d hbd hpre hjR hstp hlens hkp hQR
                    obtain ⟨L, q⟩ := R
                    simp only at hI h9 h9d hbd hpre hjR hlens hkp
                    have hLl : L.length = xs.length := hQR.len
                    have hql : q.length ≤ xs.length := hQR.few
                    rw [← HF.out] at hpre
                    rw [← HDD.out] at hkp
                    obtain ⟨a3, cap3, gq, rfl, ha3, _, _, hgq, hcq, _⟩ := hI.view
                    rw [natsI_length] at ha3 hgq hcq hI
                    obtain rfl := ha3 (by omega)
                    have hgq := hgq (by omega)
                    have hcf := hcq j hjR
                    rw [natsI_get _ _ hjR, hpre] at hcf
                    have hcz := h9.cell i (by rw [rootsL_length]; exact hilt)
                    rw [rootsL_get _ _ _ hilt] at hcz
                    have hcd := h9d.cell f (by rw [distsL_length]; exact hfn)
                    rw [distsL_get _ _ _ hfn, hkp.1] at hcd
                    have hfzi := h9.frozen i
                    have hfzd := h9d.frozen i
                    have fx := cellB (hBi.mono (Nat.le_refl _)) (X.out f hfn)
                    have fy := cellB hBi (Y.out f hfn)
                    have kx := cellB hBi (X.out i hilt)
                    have ky := cellB hBi (Y.out i hilt)
                    have hxy := HC.out f hfn
                    have hxy2 := HC.out i hilt
                    have hcr : crL xs f i = crossB (xs.getD f (0, 0)).1 (xs.getD f (0, 0)).2 (xs.getD i (0, 0)).1 (xs.getD i (0, 0)).2 := rfl
                    obtain ⟨x, hx⟩ : ∃ x, x = (xs.getD f (0, 0)).1 := ⟨_, rfl⟩
                    obtain ⟨y, hy⟩ : ∃ y, y = (xs.getD f (0, 0)).2 := ⟨_, rfl⟩
                    obtain ⟨x2, hx2⟩ : ∃ y, y = (xs.getD i (0, 0)).1 := ⟨_, rfl⟩
                    obtain ⟨y2, hy2⟩ : ∃ y, y = (xs.getD i (0, 0)).2 := ⟨_, rfl⟩
                    rw [← hx, ← hy, ← hx2, ← hy2] at hcr
                    rw [← hx, ← hy] at hxy
                    rw [← hx2, ← hy2] at hxy2
                    rw [← hx] at fx
                    rw [← hy] at fy
                    rw [← hx2] at kx
                    rw [← hy2] at ky
                    have HXY := Lib.hid hxy
                    have HXY2 := Lib.hid hxy2
                    have HII := Lib.hid hI
                    have H9I := Lib.hid h9
                    have H9DI := Lib.hid h9d
                    have HBI := Lib.hid hBi
                    have HSTP := Lib.hid hstp
                    have HBDI := Lib.hid hbd
                    have HLL := Lib.hid hLl
                    have hi1 : 0 ≤ (i : Int) := by omega
                    have hi2 : (i : Int) < (xs.length : Int) := by omega
                    have hf1 : 0 ≤ (f : Int) := by omega
                    have hf2 : (f : Int) < (xs.length : Int) := by omega
                    have hj3 : (j : Int) < (q.length : Int) := by omega
                    have hwi : IntKind.i64.wrap ((i : Int) + 1) = ((i + 1 : Nat) : Int) := by rw [IntKind.wrap_i64]; omega
                    have hgz := h9.lt
                    have hgdz := h9d.lt
                    rw [natsI_length]
                    clear hx hy hx2 hy2 hxy hxy2 hI h9 h9d hBi hstp hbd hLl hlens hkp hQR hR hcq ha3 hpre
                    by_cases hni : labT L i = none
                    · rw [rootV_none hni] at hcz
                      have HNI := Lib.hid hni
                      clear hni
                      cases hcb : crossB x y x2 y2 with
                      | true =>
                        rw [hcb] at hcr
                        have HCB := Lib.hid hcb
                        have HST2 : Hid (reachK (crL xs) k d f S (i + 1) = (L.set i (some (k, d + 1)), q ++ [i])) := Lib.hid (by rw [HSTP.out, reachS, show (labT (L, q).1 i).isNone = true by rw [HNI.out]; rfl, hcr]; rfl)
                        clear hcr hcb
                        go_wp2
                        go_region_held3 (fun w' => w'.cell? ⟨w.heap.size, i, none⟩ = some (.int .i64 (-1)) ∧ w'.cell? ⟨gq, j, none⟩ = some (.int .i64 (f : Nat)) ∧ w'.cell? ⟨g1, f * 2, none⟩ = some (.int .i64 x) ∧ w'.cell? ⟨g1, f * 2 + 1, none⟩ = some (.int .i64 y) ∧ w'.cell? ⟨g1, i * 2, none⟩ = some (.int .i64 x2) ∧ w'.cell? ⟨g1, i * 2 + 1, none⟩ = some (.int .i64 y2)) (go_keep)
                          (first | (go_at_call 44; (with_reducible refine (srCross_any x y x2 y2 _ HXY.out HXY2.out).mono ?_); rintro e w1 ⟨rfl, hb⟩; rw [HCB.out]; (have c0 : w1.cell? ⟨w.heap.size, i, none⟩ = some (.int .i64 (-1)) := cellB hb (by first | assumption | go_simp)); (have c1 : w1.cell? ⟨gq, j, none⟩ = some (.int .i64 (f : Nat)) := cellB hb (by first | assumption | go_simp)); (have c2 : w1.cell? ⟨g1, f * 2, none⟩ = some (.int .i64 x) := cellB hb (by first | assumption | go_simp)); (have c3 : w1.cell? ⟨g1, f * 2 + 1, none⟩ = some (.int .i64 y) := cellB hb (by first | assumption | go_simp)); (have c4 : w1.cell? ⟨g1, i * 2, none⟩ = some (.int .i64 x2) := cellB hb (by first | assumption | go_simp)); (have c5 : w1.cell? ⟨g1, i * 2 + 1, none⟩ = some (.int .i64 y2) := cellB hb (by first | assumption | go_simp)); (have HBW : Hid (Below wr.heap.size wr w1) := Lib.hid (Below.trans (by go_grown) (hb.mono (by first | omega | (simp; done) | (simp; omega))))); clear hb))
                        have hz1 := HBW.out.size
                        have hII1 := HII.out.later HBW.out
                        have h9I1 := H9I.out.keep HBW.out
                        have h9D1 := H9DI.out.keep HBW.out
                        have hB1 := HBI.out.trans (HBW.out.mono (by omega))
                        have hcd1 := h9D1.cell f (by rw [distsL_length]; exact hfn)
                        have hcd0 := cellB HBW.out hcd
                        have hcdi := h9D1.cell i (by rw [distsL_length]; exact hilt)
                        have hfz1 := h9I1.frozen i
                        have hfd1 := h9D1.frozen i
                        have hne1 : ¬ gq = w.heap.size := by omega
                        have hne2 : ¬ w.heap.size = gq := by omega
                        have hO1 := Only.setCell w1 w.heap.size i (.int .i64 (k : Int))
                        have hO2 := Only.setCell (w1.setCell ⟨w.heap.size, i, none⟩ (.int .i64 (k : Int))) (w.heap.size + 1) i (.int .i64 ((d : Int) + 1))
                        have hOO := (hO1.wider (B' := w.heap.size) (T' := w.heap.size + 2) (Nat.le_refl _) (by omega)).trans (hO2.wider (B' := w.heap.size) (T' := w.heap.size + 2) (by omega) (by omega))
                        have HI2 := Lib.hid (hII1.inn.keep (hOO.same_in (Nat.le_refl _) (.inr (by omega)))).1
                        have h92 := (h9I1.stored i (k : Int)).other (b := w.heap.size + 1) (o := i) (.int .i64 ((d : Int) + 1)) (by omega)
                        rw [rootsL_set _ _ HLL.out i k (d + 1) hilt] at h92
                        have h9d2 := (h9D1.other (b := w.heap.size) (o := i) (.int .i64 (k : Int)) (by omega)).stored i ((d : Int) + 1)
                        have hset : (distsL xs.length L).set i ((d : Int) + 1) = distsL xs.length (L.set i (some (k, d + 1))) := by rw [show (d : Int) + 1 = ((d + 1 : Nat) : Int) by omega]; exact distsL_set _ _ HLL.out i k (d + 1) hilt
                        rw [hset] at h9d2
                        have HB2 := Lib.hid (hB1.trans (hOO.below (Nat.le_refl _) (by omega)))
                        have H92 := Lib.hid h92
                        have H9D2 := Lib.hid h9d2
                        clear hO1 hO2 hOO h92 h9d2 hset hII1 h9I1 h9D1 hB1 hcd1
                        go_wp2_with (at_builtin; refine wpList_append_int_at rfl _ _ 36 rfl wo.heap.size 3 Try.underlying36 info_int _ _ rfl HI2.out ((i : Nat) : Int) w1.heap.size (by rw [World.size_setCell, World.size_setCell]) rfl (by rw [natsI_length]; omega) (by rw [World.size_setCell, World.size_setCell]; omega) ?_; intro v' w' hI' hg'; rw [natsI_snoc] at hI'; have HI' := Lib.hid hI'; have H93 := Lib.hid (H92.out.kept HI2.out hg' (by omega)); have H9D3 := Lib.hid (H9D2.out.kept HI2.out hg' (by omega)); have HB3 := Lib.hid (HB2.out.grown hg' (by rw [World.size_setCell, World.size_setCell]; omega) (fun b hb => by have := (HI2.out.own b hb).1; omega)); have hzz := hg'.size; rw [World.size_setCell, World.size_setCell] at hzz; clear hI' hg')
                        go_roundw
                        case rel => exact ⟨i + 1, by go_num, by omega, by rw [HST2.out]; exact HI'.out, by rw [HST2.out]; exact H93.out, by rw [HST2.out]; exact H9D3.out, HB3.out, by omega, by rw [HST2.out]; exact fun a => distT_set_le HBDI.out (by rw [HLL.out]; exact hilt) (by omega) a⟩
                        case measure => simp [intOf]; omega
                      | false =>
                        rw [hcb] at hcr
                        have HCB := Lib.hid hcb
                        have HST2 : Hid (reachK (crL xs) k d f S (i + 1) = (L, q)) := Lib.hid (by rw [HSTP.out, reachS, show (labT (L, q).1 i).isNone = true by rw [HNI.out]; rfl, hcr]; rfl)
                        clear hcr hcb
                        go_wp2
                        go_region_held3 (fun w' => w'.cell? ⟨w.heap.size, i, none⟩ = some (.int .i64 (-1)) ∧ w'.cell? ⟨gq, j, none⟩ = some (.int .i64 (f : Nat)) ∧ w'.cell? ⟨g1, f * 2, none⟩ = some (.int .i64 x) ∧ w'.cell? ⟨g1, f * 2 + 1, none⟩ = some (.int .i64 y) ∧ w'.cell? ⟨g1, i * 2, none⟩ = some (.int .i64 x2) ∧ w'.cell? ⟨g1, i * 2 + 1, none⟩ = some (.int .i64 y2)) (go_keep)
                          (first | (go_at_call 44; (with_reducible refine (srCross_any x y x2 y2 _ HXY.out HXY2.out).mono ?_); rintro e w1 ⟨rfl, hb⟩; rw [HCB.out]; (have c0 : w1.cell? ⟨w.heap.size, i, none⟩ = some (.int .i64 (-1)) := cellB hb (by first | assumption | go_simp)); (have c1 : w1.cell? ⟨gq, j, none⟩ = some (.int .i64 (f : Nat)) := cellB hb (by first | assumption | go_simp)); (have c2 : w1.cell? ⟨g1, f * 2, none⟩ = some (.int .i64 x) := cellB hb (by first | assumption | go_simp)); (have c3 : w1.cell? ⟨g1, f * 2 + 1, none⟩ = some (.int .i64 y) := cellB hb (by first | assumption | go_simp)); (have c4 : w1.cell? ⟨g1, i * 2, none⟩ = some (.int .i64 x2) := cellB hb (by first | assumption | go_simp)); (have c5 : w1.cell? ⟨g1, i * 2 + 1, none⟩ = some (.int .i64 y2) := cellB hb (by first | assumption | go_simp)); (have HBW : Hid (Below wr.heap.size wr w1) := Lib.hid (Below.trans (by go_grown) (hb.mono (by first | omega | (simp; done) | (simp; omega))))); clear hb))
                        have hz1 := HBW.out.size
                        have hII1 := HII.out.later HBW.out
                        have h9I1 := H9I.out.keep HBW.out
                        have h9D1 := H9DI.out.keep HBW.out
                        have hB1 := HBI.out.trans (HBW.out.mono (by omega))
                        have HI2 := Lib.hid hII1
                        have H92 := Lib.hid h9I1
                        have H9D2 := Lib.hid h9D1
                        have HB2 := Lib.hid hB1
                        clear hII1 h9I1 h9D1 hB1
                        go_wp2
                        go_roundw
                        case rel => exact ⟨i + 1, by go_num, by omega, by rw [HST2.out]; exact HI2.out, by rw [HST2.out]; exact H92.out, by rw [HST2.out]; exact H9D2.out, HB2.out, by omega, by rw [HST2.out]; exact HBDI.out⟩
                        case measure => simp [intOf]; omega
                    · have hsn := rootV_some hni
                      obtain ⟨z, hzv⟩ : ∃ z, z = rootV L i := ⟨_, rfl⟩
                      rw [← hzv] at hcz hsn
                      have hzn : ¬ z < 0 := by omega
                      have hzz : decide (z < 0) = false := by simp; omega
                      have HST2 : Hid (reachK (crL xs) k d f S (i + 1) = (L, q)) := Lib.hid (by rw [HSTP.out, reachS, if_neg (by simp [hni])])
                      clear hni hzv hsn
                      go_wp2
                      refine wp_region_held_drew (S := fun w' => w'.cell? ⟨w.heap.size, i, none⟩ = some (.int .i64 z)) (by kernel_rfl) (by (try dsimp only); go_keep) (fun hHeld => ?_)
                      refine wpAnyH_take (i := 0) (v := ?v1) rfl (by kernel_rfl) (by kernel_rfl) (by kernel_rfl) (fun _ _ _ h => h) (Or.inl ⟨by rfl, ?hy1⟩) (by assumption) ?rest1
                      case hy1 => (intro w hSw; (try dsimp only at hSw); go_simp; (try with_reducible rfl))
                      simp only [Act.put, List.getElem_toArray, List.getElem_cons_zero, List.setIfInBounds_toArray, List.set_cons_zero, List.set_cons_succ]
                      refine wpAnyH_take (i := 1) (v := ?v2) rfl (by kernel_rfl) (by kernel_rfl) (by kernel_rfl) (fun _ _ _ h => h) (Or.inl ⟨by rfl, ?hy2⟩) (by assumption) ?rest2
                      case hy2 => (intro w hSw; (try dsimp only at hSw); go_simp; (try with_reducible rfl))
                      simp only [Act.put, List.getElem_toArray, List.getElem_cons_zero, List.getElem_cons_succ, List.setIfInBounds_toArray, List.set_cons_zero, List.set_cons_succ]
                      refine wpAnyH_take (i := 2) (v := ?v3) rfl (by kernel_rfl) (by kernel_rfl) (by kernel_rfl) (fun _ _ _ h => h) (Or.inl ⟨by rfl, ?hy3⟩) (by assumption) ?rest3
                      case hy3 => (intro w hSw; (try dsimp only at hSw); go_simp; (try with_reducible rfl))
                      simp only [Act.put, List.getElem_toArray, List.getElem_cons_zero, List.getElem_cons_succ, List.setIfInBounds_toArray, List.set_cons_zero, List.set_cons_succ]
                      refine wpAnyH_take (i := 3) (v := ?v4) rfl (by kernel_rfl) (by kernel_rfl) (by kernel_rfl) (fun _ _ _ h => h) (Or.inl ⟨by rfl, ?hy4⟩) (by assumption) ?rest4
                      case hy4 => (intro w hSw; (try dsimp only at hSw); go_simp; (try with_reducible rfl))
                      simp only [Act.put, List.getElem_toArray, List.getElem_cons_zero, List.getElem_cons_succ, List.setIfInBounds_toArray, List.set_cons_zero, List.set_cons_succ]
                      refine wpAnyH_take (i := 4) (v := ?v5) rfl (by kernel_rfl) (by kernel_rfl) (by kernel_rfl) (fun _ _ _ h => h) (Or.inl ⟨by rfl, ?hy5⟩) (by assumption) ?rest5
                      case hy5 => (intro w hSw; (try dsimp only at hSw); go_simp; (try with_reducible rfl))
                      simp only [Act.put, List.getElem_toArray, List.getElem_cons_zero, List.getElem_cons_succ, List.setIfInBounds_toArray, List.set_cons_zero, List.set_cons_succ]
                      refine wpAnyH_take (i := 5) (v := ?v6) rfl (by kernel_rfl) (by kernel_rfl) (by kernel_rfl) (fun _ _ _ h => h) (Or.inl ⟨by rfl, ?hy6⟩) (by assumption) ?rest6
                      case hy6 => (intro w hSw; (try dsimp only at hSw); go_simp; (try with_reducible rfl))
                      simp only [Act.put, List.getElem_toArray, List.getElem_cons_zero, List.getElem_cons_succ, List.setIfInBounds_toArray, List.set_cons_zero, List.set_cons_succ]
                      refine wpAnyH_take (i := 6) (v := undef) rfl (by kernel_rfl) (by kernel_rfl) (by kernel_rfl) (fun _ _ _ h => h) (Or.inr ⟨by rfl, rfl⟩) (by assumption) ?_
                      simp only [Act.put, List.getElem_toArray, List.getElem_cons_zero, List.getElem_cons_succ, List.setIfInBounds_toArray, List.set_cons_zero, List.set_cons_succ]
                      refine wpAnyH_take (i := 7) (v := undef) rfl (by kernel_rfl) (by kernel_rfl) (by kernel_rfl) (fun _ _ _ h => h) (Or.inr ⟨by rfl, rfl⟩) (by assumption) ?_
                      simp only [Act.put, List.getElem_toArray, List.getElem_cons_zero, List.getElem_cons_succ, List.setIfInBounds_toArray, List.set_cons_zero, List.set_cons_succ]
                      refine wpAnyH_take (i := 8) (v := undef) rfl (by kernel_rfl) (by kernel_rfl) (by kernel_rfl) (fun _ _ _ h => h) (Or.inr ⟨by rfl, rfl⟩) (by assumption) ?_
                      simp only [Act.put, List.getElem_toArray, List.getElem_cons_zero, List.getElem_cons_succ, List.setIfInBounds_toArray, List.set_cons_zero, List.set_cons_succ]
                      refine wpAnyH_take (i := 9) (v := undef) rfl (by kernel_rfl) (by kernel_rfl) (by kernel_rfl) (fun _ _ _ h => h) (Or.inr ⟨by rfl, rfl⟩) (by assumption) ?_
                      simp only [Act.put, List.getElem_toArray, List.getElem_cons_zero, List.getElem_cons_succ, List.setIfInBounds_toArray, List.set_cons_zero, List.set_cons_succ]
                      refine wpAnyH_take (i := 10) (v := undef) rfl (by kernel_rfl) (by kernel_rfl) (by kernel_rfl) (fun _ _ _ h => h) (Or.inr ⟨by rfl, rfl⟩) (by assumption) ?_
                      simp only [Act.put, List.getElem_toArray, List.getElem_cons_zero, List.getElem_cons_succ, List.setIfInBounds_toArray, List.set_cons_zero, List.set_cons_succ]
                      refine wpAnyH_take (i := 11) (v := undef) rfl (by kernel_rfl) (by kernel_rfl) (by kernel_rfl) (fun _ _ _ h => h) (Or.inr ⟨by rfl, rfl⟩) (by assumption) ?_
                      simp only [Act.put, List.getElem_toArray, List.getElem_cons_zero, List.getElem_cons_succ, List.setIfInBounds_toArray, List.set_cons_zero, List.set_cons_succ]
                      refine wpAnyH_take (i := 12) (v := undef) rfl (by kernel_rfl) (by kernel_rfl) (by kernel_rfl) (fun _ _ _ h => h) (Or.inr ⟨by rfl, rfl⟩) (by assumption) ?_
                      simp only [Act.put, List.getElem_toArray, List.getElem_cons_zero, List.getElem_cons_succ, List.setIfInBounds_toArray, List.set_cons_zero, List.set_cons_succ]
                      refine wpAnyH_take (i := 13) (v := undef) rfl (by kernel_rfl) (by kernel_rfl) (by kernel_rfl) (fun _ _ _ h => h) (Or.inr ⟨by rfl, rfl⟩) (by assumption) ?_
                      simp only [Act.put, List.getElem_toArray, List.getElem_cons_zero, List.getElem_cons_succ, List.setIfInBounds_toArray, List.set_cons_zero, List.set_cons_succ]
                      refine wpAnyH_take (i := 14) (v := undef) rfl (by kernel_rfl) (by kernel_rfl) (by kernel_rfl) (fun _ _ _ h => h) (Or.inr ⟨by rfl, rfl⟩) (by assumption) ?_
                      simp only [Act.put, List.getElem_toArray, List.getElem_cons_zero, List.getElem_cons_succ, List.setIfInBounds_toArray, List.set_cons_zero, List.set_cons_succ]
                      refine wpAnyH_take (i := 15) (v := undef) rfl (by kernel_rfl) (by kernel_rfl) (by kernel_rfl) (fun _ _ _ h => h) (Or.inr ⟨by rfl, rfl⟩) (by assumption) ?_
                      simp only [Act.put, List.getElem_toArray, List.getElem_cons_zero, List.getElem_cons_succ, List.setIfInBounds_toArray, List.set_cons_zero, List.set_cons_succ]
                      refine wpAnyH_take (i := 16) (v := undef) rfl (by kernel_rfl) (by kernel_rfl) (by kernel_rfl) (fun _ _ _ h => h) (Or.inr ⟨by rfl, rfl⟩) (by assumption) ?_
                      simp only [Act.put, List.getElem_toArray, List.getElem_cons_zero, List.getElem_cons_succ, List.setIfInBounds_toArray, List.set_cons_zero, List.set_cons_succ]
                      refine wpAnyH_take (i := 17) (v := undef) rfl (by kernel_rfl) (by kernel_rfl) (by kernel_rfl) (fun _ _ _ h => h) (Or.inr ⟨by rfl, rfl⟩) (by assumption) ?_
                      simp only [Act.put, List.getElem_toArray, List.getElem_cons_zero, List.getElem_cons_succ, List.setIfInBounds_toArray, List.set_cons_zero, List.set_cons_succ]
                      refine wpAnyH_take (i := 18) (v := ?v7) rfl (by kernel_rfl) (by kernel_rfl) (by kernel_rfl) (fun _ _ _ h => h) (Or.inl ⟨by rfl, ?hy7⟩) (by assumption) ?rest7
                      case hy7 => (intro w hSw; (try dsimp only at hSw); go_simp; (try with_reducible rfl))
                      simp only [Act.put, List.getElem_toArray, List.getElem_cons_zero, List.getElem_cons_succ, List.setIfInBounds_toArray, List.set_cons_zero, List.set_cons_succ]
                      refine wpAnyH_done (by kernel_rfl) ?_ _
                      go_wp2
                      go_roundw
                      case rel => exact ⟨i + 1, by go_num, by omega, by rw [HST2.out]; exact HII.out.later (by go_grown), by rw [HST2.out]; exact H9I.out.keep (by go_grown), by rw [HST2.out]; exact H9DI.out.keep (by go_grown), HBI.out.trans (by go_grown), by first | omega | (simp; omega), by rw [HST2.out]; exact HBDI.out⟩
                      case measure => simp [intOf]; omega
                  · obtain rfl : i = xs.length := by omega
                    have hle := (reachK_pre (crL xs) k d f S xs.length j hjl).2
                    go_wp2
                    go_roundw
                    case rel => exact ⟨j + 1, reachK (crL xs) k d f S xs.length, by go_num, hle, HQ.out.reach _ _ _ _ (Nat.le_refl _), HGO.out.symm.trans HRUN.out, hI, h9, h9d, hBi, hzi, fun a => by have := hbd a; omega⟩
                    case measure => simp [intOf]; omega
              · obtain rfl : j = S.2.length := by omega
                have hend : S = gatherQ (crL xs) xs.length M k := by rw [← HRUN.out, runQ_end _ _ _ _ _ (Nat.le_refl _)]
                have hnew : outerK (crL xs) xs.length (k + 1) = (S.1, G ++ [S.2]) := by rw [HST.out, outerS, if_neg (by rw [HNN.out]; simp), ← hend]
                have HNEW := Lib.hid hnew
                clear hend hnew hQ
                go_wp2
                go_roundw
                case rel => exact ⟨k + 1, by omega, by go_num, by rw [HNEW.out]; exact H9J.out, by rw [HNEW.out]; exact H9D.out, HBJ.out, by rw [HNEW.out]; exact fun a => by have := HBDJ.out a; simp only; omega⟩
                case measure => simp [intOf]; omega
          · have hsn := rootV_some hnn
            obtain ⟨z, hzv⟩ : ∃ z, z = rootV M k := ⟨_, rfl⟩
            rw [← hzv] at hcz hsn
            have hzz : decide (z ≥ 0) = true := by simp; omega
            have HST2 : Hid (outerK (crL xs) xs.length (k + 1) = (M, G)) := Lib.hid (by rw [HST.out, outerS, if_pos (Option.isSome_iff_ne_none.2 hnn)])
            clear hzv
            go_wp2
            go_roundw
            case rel => exact ⟨k + 1, by omega, by go_num, by rw [HST2.out]; exact HR.out, by rw [HST2.out]; exact HD.out, HB.out, by rw [HST2.out]; exact fun a => by have := HBD.out a; simp only; omega⟩
            case measure => simp [intOf]; omega
        · obtain rfl : k = xs.length := by omega
          go_wp2
          go_ret2
          exact ⟨rfl, hr, hd, hB, fun i => by have := hbd i; omega⟩

end Go.Proofs.Ytinjldakmjganaa
