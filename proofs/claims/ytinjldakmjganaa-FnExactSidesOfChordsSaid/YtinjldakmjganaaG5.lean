/- Groups: the program gathers them. -/
import Derived.Test.YtinjldakmjganaaG4
namespace Go.Proofs.Ytinjldakmjganaa
open Go.RowKit
set_option linter.unusedVariables false

theorem InvQ.at {n root : Nat} {L0 : LabT} {S : LabT × List Nat} (h : InvQ n root L0 S) (j : Nat) (hj : j < S.2.length) : S.2.getD j 0 < n ∧ labT S.1 (S.2.getD j 0) ≠ none := by
  have := (h.mem (S.2.getD j 0)).1 (getD_mem' S.2 j hj)
  exact ⟨this.1, this.2.2⟩

theorem InvQ.some' {n root : Nat} {L0 : LabT} {S : LabT × List Nat} (h : InvQ n root L0 S) (hr : root < n) (h0 : labT L0 root = none) : 0 < S.2.length := by
  have := (h.mem root).2 ⟨hr, h0, by rw [h.top]; simp⟩
  exact List.length_pos_of_mem this

set_option maxHeartbeats 4000000 in
set_option maxRecDepth 100000 in
theorem groupsAndSides_any (u : Value) (xs : List (Int × Int)) (B T : Nat) (w : World) (h : PairsIn 48 w B T u xs) (hT : T ≤ w.heap.size) (hn : xs.length ≤ 40) :
    Calls Try.prog 29 #[u] w fun e w' => ∃ v, e = .returned (.tuple #[v, .slice (some ⟨w.heap.size, 0, none⟩) xs.length xs.length]) ∧ RowsIn 36 3 w' (w.heap.size + 1) w'.heap.size v ((outerK (crL xs) xs.length xs.length).2.map rowN) ∧ BytAt 5 w' w.heap.size (sidesL xs.length (outerK (crL xs) xs.length xs.length).1) ∧ Below w.heap.size w w' := by
  obtain ⟨a1, c1, g1, rfl, ha1, hmm, hx1, hy1⟩ := h.pairs.view
  have HP := Lib.hid h
  have hmk := make_bytes (P := Try.prog) Try.underlying51 info_byte xs.length (by omega)
  clear h ha1 hx1 hy1 hmm
  go_enter Try.func29, Try.ntmps29
  go_wp2
  clear hmk
  go_loopw [4, 14] (fun r i wr => ∃ k : Nat, k ≤ xs.length ∧ i = .int .i64 k ∧ RowsIn 36 3 wr (w.heap.size + 1) wr.heap.size r ((outerK (crL xs) xs.length k).2.map rowN) ∧ BytAt 5 wr w.heap.size (sidesL xs.length (outerK (crL xs) xs.length k).1) ∧ Below w.heap.size w wr) (fun _ i _ => xs.length - (intOf i).toNat)
  case atStart => exact ⟨0, by omega, rfl, RowsIn.nil _ _ _ _ _, by rw [outerK_zero, sidesL_none]; exact heap_alloc_new w _, by go_grown⟩
  case round =>
    obtain ⟨wo, rfl⟩ : ∃ z, z = wr := ⟨wr, rfl⟩
    obtain ⟨k, hk, rfl, hR, hS9, hB⟩ := hrel
    have hz := hB.size
    have hgz := hS9.lt
    by_cases hlt : k < xs.length
    · have hO := outI (crL xs) xs.length k hk
      have hstep := outerK_succ (crL xs) xs.length k
      have hO1 := outI (crL xs) xs.length (k + 1) hlt
      obtain ⟨E, hE⟩ : ∃ E, E = outerK (crL xs) xs.length k := ⟨_, rfl⟩
      rw [← hE] at hO hstep hR hS9
      obtain ⟨M, G⟩ := E
      simp only at hR hS9
      obtain ⟨vs0, hvs0⟩ := hR
      obtain ⟨a5, c5, g5, hr5, -⟩ := hvs0.view
      obtain ⟨lg, hlg⟩ : ∃ n, n = (G.map rowN).length := ⟨_, rfl⟩
      rw [← hlg] at hr5
      subst hr5
      have hR : RowsIn 36 3 wo (w.heap.size + 1) wo.heap.size (.slice a5 lg c5) (G.map rowN) := ⟨vs0, hvs0⟩
      clear hvs0 hlg
      have hcz := hS9.cell k (by rw [sidesL_length]; exact hlt)
      rw [sidesL_get _ _ _ hlt] at hcz
      have hfz := hS9.frozen k
      obtain ⟨z, hzv⟩ : ∃ z, z = sideV M k := ⟨_, rfl⟩
      rw [← hzv] at hcz
      have hzq : (z = 0) = (labT M k = none) := by rw [hzv]; exact propext (sideV_zero M k)
      have hk1 : 0 ≤ (k : Int) := by omega
      have hk2 : (k : Int) < (xs.length : Int) := by omega
      have hw1 : IntKind.i64.wrap ((k : Int) + 1) = ((k + 1 : Nat) : Int) := by rw [IntKind.wrap_i64]; omega
      have HR := Lib.hid hR
      have H9 := Lib.hid hS9
      have HB := Lib.hid hB
      have HOI := Lib.hid hO
      have HST := Lib.hid hstep
      have hgl := nodup_few
      clear hR hS9 hB hO hstep hE hzv hgl
      by_cases hz0 : z = 0
      · have hnn : labT M k = none := hzq ▸ hz0
        have HNN := Lib.hid hnn
        subst hz0
        clear hzq hnn
        have HQ0 := Lib.hid (InvQ.start HOI.out.len k hlt HNN.out)
        have hboxed := Ints.boxed (wo.setCell ⟨w.heap.size, k, none⟩ (.int .u8 105)) wo.heap.size 3 [(k : Int)] (by simp) (by simp)
        rw [World.size_setCell] at hboxed
        have HBX := Lib.hid (show Ints ((wo.setCell ⟨w.heap.size, k, none⟩ (.int .u8 105)).alloc (.cells #[.int .i64 (k : Int)] 3)) wo.heap.size 3 (.slice (some ⟨wo.heap.size, 0, none⟩) 1 1) (natsI [k]) from hboxed)
        have h91 := H9.out.stored k 105
        rw [show (105 : Int) = if 0 % 2 = 0 then 105 else 111 from rfl, sidesL_set _ _ HOI.out.len k k 0 hlt] at h91
        have hba : Below (wo.setCell ⟨w.heap.size, k, none⟩ (.int .u8 105)).heap.size (wo.setCell ⟨w.heap.size, k, none⟩ (.int .u8 105)) ((wo.setCell ⟨w.heap.size, k, none⟩ (.int .u8 105)).alloc (.cells #[.int .i64 (k : Int)] 3)) := (Below.refl _ _).alloc (Nat.le_refl _) _
        have H91 := Lib.hid (h91.keep hba)
        have HOS := Lib.hid ((Only.setCell wo w.heap.size k (.int .u8 105)).more hba)
        have HR1 := Lib.hid (HR.out.keep (HOS.out.same_in (Nat.le_refl _) (.inr (Nat.le_refl _))))
        have HB1 := Lib.hid (HB.out.trans (HOS.out.below (Nat.le_refl _) (by omega)))
        clear hboxed h91 hba
        go_wp2
        go_loopw [7, 8] (fun g t wr => ∃ (j : Nat) (S : LabT × List Nat), t = .int .i64 j ∧ j ≤ S.2.length ∧ InvQ xs.length k M S ∧ runQ (crL xs) xs.length k (xs.length + 1 - j) j S = gatherQ (crL xs) xs.length M k ∧ Ints wr wo.heap.size 3 g (natsI S.2) ∧ BytAt 5 wr w.heap.size (sidesL xs.length S.1) ∧ RowsIn 36 3 wr (w.heap.size + 1) wo.heap.size (.slice a5 lg c5) (G.map rowN) ∧ Below w.heap.size w wr ∧ wo.heap.size ≤ wr.heap.size) (fun _ t _ => xs.length + 1 - (intOf t).toNat)
        case atStart => exact ⟨0, (M.set k (some (k, 0)), [k]), rfl, by simp, HQ0.out, rfl, HBX.out, H91.out, HR1.out, HB1.out, by simp⟩
        case round =>
          obtain ⟨j, S, rfl, hj, hQ, hrun, hI, h9, hRr, hBj, hzj⟩ := hrel
          have hq40 := hQ.few
          have hpos := hQ.some' hlt HNN.out
          obtain ⟨a2, cap2, g2, rfl, ha2, hn2, hml, hg2, hcell, hfr⟩ := hI.view
          rw [natsI_length] at ha2 hg2 hcell hfr hI hml
          obtain rfl := ha2 hpos
          have HI := Lib.hid hI
          have H9J := Lib.hid h9
          have HRJ := Lib.hid hRr
          have HBJ := Lib.hid hBj
          have HRUN := Lib.hid hrun
          have HQ := Lib.hid hQ
          have hg2 := hg2 hpos
          clear hI h9 hRr hBj hrun ha2 hml hn2 hfr HBX H91 HR1 HB1 HOS HQ0
          rw [natsI_length]
          by_cases hjl : j < S.2.length
          · obtain ⟨hfn, hfl⟩ := hQ.at j hjl
            have hcj := hcell j hjl
            rw [natsI_get _ _ hjl] at hcj
            have hgo := runQ_go (crL xs) xs.length k j S hjl hq40
            obtain ⟨f, hf⟩ : ∃ f, f = S.2.getD j 0 := ⟨_, rfl⟩
            rw [← hf] at hfn hfl hcj hgo
            have HGO := Lib.hid hgo
            have HFL := Lib.hid hfl
            have HPJ := Lib.hid (HP.out.keep (belowSame HBJ.out hT))
            have HML := Lib.hid hQ.len
            have hj1 : 0 ≤ (j : Int) := by omega
            have hj2 : (j : Int) < (S.2.length : Int) := by omega
            have hwj : IntKind.i64.wrap ((j : Int) + 1) = ((j + 1 : Nat) : Int) := by rw [IntKind.wrap_i64]; omega
            have hrl := reachK_len (crL xs) k (distT S.1 f) f (S.1, []) xs.length
            have hrq := reachK_queue (crL xs) k (distT S.1 f) f S.1 S.2 xs.length
            obtain ⟨N, hN⟩ : ∃ N, N = reachK (crL xs) k (distT S.1 f) f (S.1, []) xs.length := ⟨_, rfl⟩
            rw [← hN] at hrl hrq
            have HN := Lib.hid hN
            have HRQ := Lib.hid hrq
            have hnl : N.2.length ≤ xs.length := by simpa using hrl.2
            clear hgo hfl hcell hQ hf hrl hrq hN
            go_wp2_with (first
              | (go_at_call 48; (with_reducible refine (reachNew_any _ xs B T _ HPJ.out hn 5 w.heap.size S.1 HML.out H9J.out k f _ hfn HFL.out rfl).mono ?_); rintro e w1 ⟨v1, rfl, hI1, h91, hO1⟩; rw [← HN.out] at hI1 h91; (have HI1 := Lib.hid hI1); (have H91 := Lib.hid h91); (have HO1 := Lib.hid hO1); (have hz1 := hO1.size); (have HIG := Lib.hid (HI.out.inn.keep (HO1.out.same_in (Nat.le_refl _) (.inr (by omega)))).1); (have HR1 := Lib.hid (HRJ.out.keep (HO1.out.same_in (by omega) (.inr (Nat.le_refl _))))); (have HB1 := Lib.hid (HBJ.out.trans (HO1.out.below (Nat.le_refl _) (by omega)))); clear hI1 h91 hO1)
              | (at_builtin; refine wpList_append_own_ints rfl _ _ 36 rfl wo.heap.size 3 Try.underlying36 info_int _ _ rfl HIG.out _ _ _ _ rfl HI1.out (by rw [natsI_length, natsI_length]; omega) (by omega) ?_; intro v' w' hI' hg'; rw [natsI_app] at hI'; have HI' := Lib.hid hI'; have HG' := Lib.hid hg'; clear hI' hg'))
            have hown : ∀ b, (Value.slice (some ⟨g2, 0, none⟩) S.2.length cap2).ownBlock = some b → wo.heap.size ≤ b := fun b hb => (HIG.out.own b hb).1
            have hrq := HRQ.out
            go_roundw
            case rel => exact ⟨j + 1, reachK (crL xs) k (distT S.1 f) f S xs.length, by go_num, by rw [show S = (S.1, S.2) from rfl, hrq]; simp; omega, HQ.out.reach _ _ _ _ (Nat.le_refl _), HGO.out.symm.trans HRUN.out, by rw [show S = (S.1, S.2) from rfl, hrq]; exact HI'.out, by rw [show S = (S.1, S.2) from rfl, hrq]; exact H91.out.kept HIG.out HG'.out (by omega), HR1.out.keep (sameG HG'.out (by omega) hown), HB1.out.grown HG'.out (by omega) (fun b hb => Nat.le_trans hz (hown b hb)), by have := HG'.out.size; omega⟩
            case measure => simp [intOf]; omega
          · obtain rfl : j = S.2.length := by omega
            have hend : S = gatherQ (crL xs) xs.length M k := by rw [← HRUN.out, runQ_end _ _ _ _ _ (Nat.le_refl _)]
            have hnew : outerK (crL xs) xs.length (k + 1) = (S.1, G ++ [S.2]) := by rw [HST.out, outerS, if_neg (by rw [HNN.out]; simp), ← hend]
            have HNEW := Lib.hid hnew
            obtain ⟨vs, hvs⟩ := HRJ.out
            have HVS := Lib.hid hvs
            have hGl : vs.length ≤ 1000 := by
              rw [hvs.len, List.length_map]
              have := HOI.out.grp
              have h2 := congrArg List.length this
              rw [List.length_map, List.length_map] at h2
              have h3 := List.length_filter_le (rootT M) (List.range k)
              rw [List.length_range] at h3
              simp only at h2
              omega
            clear hend hnew hvs hQ hcell
            go_wp2_with (first
              | (go_at_call 49; (with_reducible refine (sort_ints _ wo.heap.size g2 _ cap2 3 _ HI.out (by rw [natsI_length]; omega)).mono ?_); rintro e w1 ⟨rfl, hI1, hg1⟩; rw [sort_natsI] at hI1; (have HI1 := Lib.hid hI1.inn); (have hz1 := hg1.size); (have HV1 := Lib.hid (HVS.out.keep (sameG hg1 (by omega) (fun b hb => by cases hb; omega)))); (have H91 := Lib.hid (show BytAt _ w1 _ _ from (hg1.block _ H9J.out.lt (fun e => by cases e; omega)).trans H9J.out)); (have HB1 := Lib.hid (HBJ.out.grown hg1 (by omega) (fun b hb => by cases hb; omega))); clear hI1 hg1)
              | (at_builtin; refine wpList_append_val rfl _ _ 24 rfl (w.heap.size + 1) 36 (.slice none 0 0) 24 Try.underlying24 info_ints (by decide) (by decide) _ vs rfl HV1.out.outer _ rfl rfl (by omega) (by omega) ?_; intro v' w4 ho hg; have hn4 := hg.size; have HM := Lib.hid (HV1.out.more (by decide) HI1.out (by omega) (by omega) hn4 ho hg); have HOV := Lib.hid HV1.out.outer.lt; have HG4 := Lib.hid hg; clear ho hg))
            have hown : ∀ b, (Value.slice a5 lg c5).ownBlock = some b → w.heap.size + 1 ≤ b := fun b hb => (HOV.out b hb).1
            go_roundw
            case rel => exact ⟨k + 1, by omega, by go_num, by rw [HNEW.out, List.map_append]; exact ⟨_, HM.out⟩, by rw [HNEW.out]; exact (HG4.out.block _ H91.out.lt (fun e => by have := hown _ e.symm; omega)).trans H91.out, HB1.out.grown HG4.out (by omega) (fun b hb => by have := hown b hb; omega)⟩
            case measure => simp [intOf]; omega
      · have hzz : (z != 0) = true := bne_iff_ne.2 hz0
        have hsn : labT M k ≠ none := fun e => hz0 (hzq ▸ e)
        have HST2 : Hid (outerK (crL xs) xs.length (k + 1) = (M, G)) := Lib.hid (by rw [HST.out, outerS, if_pos (Option.isSome_iff_ne_none.2 hsn)])
        clear hzq hsn
        go_wp2
        go_roundw
        case rel => exact ⟨k + 1, by omega, by go_num, by rw [HST2.out]; exact HR.out, by rw [HST2.out]; exact H9.out, HB.out⟩
        case measure => simp [intOf]; omega
    · obtain rfl : k = xs.length := by omega
      go_wp2
      go_ret2
      exact ⟨_, rfl, hR, hS9, hB⟩

end Go.Proofs.Ytinjldakmjganaa
