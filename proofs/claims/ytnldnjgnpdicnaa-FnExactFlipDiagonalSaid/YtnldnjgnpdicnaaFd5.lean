/- A diagonal is flipped: the program. -/
import Derived.Test.YtnldnjgnpdicnaaFd3
import Derived.Test.YtnldnjgnpdicnaaFd4
import Derived.Test.YtnldnjgnpdicnaaRN
import Derived.Test.YtnldnjgnpdicnaaZJ
namespace Go.Proofs.Ytnldnjgnpdicnaa
open Go.RowKit
set_option linter.unusedVariables false
set_option maxHeartbeats 8000000 in
set_option maxRecDepth 100000 in
theorem flipped_any (n : Nat) (a0 : Option Addr) (cap : Nat) (xs : List (Int × Int)) (B T : Nat) (w : World) (h : PairsIn 52 w B T (.slice a0 xs.length cap) xs) (hT : T ≤ w.heap.size) (hg : goodC n xs) (ht : triB n xs = true) (k : Nat) (hk : k < xs.length) {x y f g u v : Int} (hxy : xs.getD k (0, 0) = (x, y))
    (hmap : ((regL n xs).filter (bothR (x, y))).map (crnR (x, y)) = [u, v]) (hthird : ∀ S ∈ regL n xs, bothR (x, y) S = true → ∃ p ∈ S, p ≠ x ∧ p ≠ y) (hmin : min u v = f) (hmax : max u v = g) :
    Calls Try.prog 58 #[.agg #[.int .i64 n, .slice a0 xs.length cap], .int .i64 (k : Int)] w fun e w' => ∃ v, e = .returned v ∧ PairsIn 52 w' w.heap.size w'.heap.size v (sortL (xs.set k (f, g))) ∧ Below w.heap.size w w' := by
  subst hmin hmax
  have hpl := (tri_facts ht).1
  have hlen := hg.2.1
  have hsm := (regL_small hg hpl).2
  have HRW := Lib.hid (regL_rows hg hpl)
  have hHR := Lib.hid (fun W hW1 hW2 => regions_gives n a0 cap xs B T W hW1 hW2 hg hpl)
  obtain ⟨L, hL⟩ : ∃ L, regL n xs = L := ⟨_, rfl⟩
  rw [hL] at hsm HRW hmap hthird hHR
  rw [← sel_rows] at hmap
  have HWB := Lib.hid (fun ar cr B T W hW1 hW2 => withBoth_any ar cr L x y B T W hW1 hW2 HRW.out hsm)
  have HSEL := Lib.hid (selT_mem (fun k => bothR (x, y) (L.getD k [])) L.length)
  obtain ⟨idx, hidx⟩ : ∃ z, selT (fun k => bothR (x, y) (L.getD k [])) L.length = z := ⟨_, rfl⟩
  rw [hidx] at hmap HWB HSEL
  have h2 : idx.length = 2 := by have := congrArg List.length hmap; simpa using this
  have HMP := Lib.hid hmap
  have HTH := Lib.hid hthird
  have HH := Lib.hid h
  obtain ⟨a1, c1, gx, hv, ha1, hmm, hx1, hy1⟩ := h.pairs.view
  obtain ⟨rfl, _, rfl⟩ : a0 = a1 ∧ xs.length = xs.length ∧ cap = c1 := by simpa using hv
  obtain rfl := ha1 (by omega)
  have ex := hx1 k hk
  have ey := hy1 k hk
  rw [hxy] at ex ey
  simp only at ex ey
  have hxw : gx < w.heap.size := by have := World.block_lt_of_cell? w _ ex; simpa using this
  have ex' := cellB (w' := w.alloc (.cells #[.int .i64 n, .slice (some ⟨gx, 0, none⟩) xs.length cap] 78)) (by go_grown) ex
  have ey' := cellB (w' := w.alloc (.cells #[.int .i64 n, .slice (some ⟨gx, 0, none⟩) xs.length cap] 78)) (by go_grown) ey
  have hk1 : (k : Int) < (xs.length : Int) := by omega
  clear h hv hx1 hy1 hmap hthird hL ex ey hg ht hpl hmm hidx
  go_enter Try.func58, Try.ntmps58
  go_wp2_with (first
    | (go_at_call 105; (refine (hHR.out _ (HH.out.keep (belowSame (by go_grown) hT)) (by simp; omega)).mono ?_); rintro e w1 ⟨v1, rfl, ⟨vs, hR⟩, hb1⟩; (have x0 : w1.cell? ⟨w.heap.size + 1, 0, none⟩ = some (.int .i64 x) := cellB hb1 (by go_simp)); (have x1 : w1.cell? ⟨w.heap.size + 1, 1, none⟩ = some (.int .i64 y) := cellB hb1 (by go_simp)); (have y1 : w1.cell? ⟨w.heap.size, 1, none⟩ = some (.slice (some ⟨gx, 0, none⟩) xs.length cap) := cellB hb1 (by go_simp)); (have hB1 : Below w.heap.size w w1 := Below.trans (by go_grown) (hb1.mono (by simp; omega))); (have hz1 : w.heap.size + 2 ≤ w1.heap.size := by have := hb1.size; simp at this; omega); (obtain ⟨ar, cr, gr, rfl, har, _, hcr, _⟩ := hR.view); (have HR := Lib.hid hR); (have HAR := Lib.hid har); (have HCR := Lib.hid hcr); clear hR har hcr hb1)
    | (go_at_call 106; (refine (HWB.out ar cr _ w1.heap.size _ ⟨vs, HR.out⟩ (Nat.le_refl _)).mono ?_); rintro e w3 ⟨v3, rfl, hI3, hb3⟩; (have hz3 := hb3.size); (have x0 := cellB hb3 x0); (have x1 := cellB hb3 x1); (have y1 := cellB hb3 y1); (have hB3 := hB1.trans (hb3.mono (by omega))); (obtain ⟨ai, ci, gi, rfl, hai, _, _, _, hci, _⟩ := hI3.view); (have HAI := Lib.hid hai); (have HCI := Lib.hid hci); (have HRK := Lib.hid (HR.out.keep (belowSame hb3 (Nat.le_refl _)))); clear hI3 hai hci))
  go_loopw [7, 23] (fun z i wr => ∃ j : Nat, j ≤ idx.length ∧ i = .int .i64 (j : Int) ∧ Hid (Ints wr w3.heap.size 3 z ((idx.take j).map fun q => crnR (x, y) (L.getD q.toNat []))) ∧ Below w3.heap.size w3 wr) (fun _ i _ => idx.length - (intOf i).toNat)
  case atStart => exact ⟨0, by omega, rfl, Lib.hid (World.ownsRow_nil _ _ _ _), Below.refl _ _⟩
  case round =>
    obtain ⟨j, hj, rfl, HI, hB⟩ := hrel
    obtain ⟨wo, rfl⟩ : ∃ q, q = wr := ⟨wr, rfl⟩
    have hz := hB.size
    by_cases hlt : j < idx.length
    · obtain rfl := HAI.out (by omega)
      obtain ⟨q, hq, hbq, hqe⟩ := HSEL.out j hlt
      have e0 := cellB hB (HCI.out j hlt)
      rw [hqe] at e0
      have hj1 : (j : Int) < (idx.length : Int) := by omega
      obtain rfl := HAR.out (by omega)
      have hrow := HRK.out.rows q hq
      have hmemq : L.getD q [] ∈ L := by rw [getD_at _ _ _ hq]; exact List.getElem_mem _
      have hthq := HTH.out _ hmemq hbq
      obtain ⟨_, hS60⟩ := HRW.out q hq
      have er := cellB hB (cellB hb3 (HCR.out q hq))
      obtain ⟨S, hS⟩ : ∃ S, L.getD q [] = S := ⟨_, rfl⟩
      rw [hS] at hrow hthq hS60
      obtain ⟨z, hzl, hcz, hzy, hzn⟩ := crn_place (c := (x, y)) hthq
      obtain ⟨rv, hrv⟩ : ∃ rv, vs.getD q (Value.slice none 0 0) = rv := ⟨_, rfl⟩
      rw [hrv] at hrow er
      obtain ⟨a3, c3, g3, rfl, ha3, _, _, _, hc3, _⟩ := hrow.1.view
      obtain rfl := ha3 (by omega)
      have ez := cellB hB (hc3 z hzl)
      obtain ⟨cv, hcv⟩ : ∃ cv, S.getD z 0 = cv := ⟨_, rfl⟩
      rw [hcv] at ez hcz
      have HROW := Lib.hid hrow.1
      have lgr : gr < w3.heap.size := by have := World.block_lt_of_cell? _ _ (cellB hb3 (HCR.out q hq)); simpa using this
      have lg3 : g3 < w3.heap.size := by have := World.block_lt_of_cell? _ _ (hc3 z hzl); simpa using this
      have HCZ := Lib.hid hcz
      have HZY := Lib.hid hzy
      have HZN := Lib.hid hzn
      have HQ := Lib.hid (show (idx.take (j + 1)).map (fun q => crnR (x, y) (L.getD q.toNat [])) = (idx.take j).map (fun q => crnR (x, y) (L.getD q.toNat [])) ++ [cv] from by
        rw [List.take_succ_eq_append_getElem hlt, List.map_append]
        have : idx[j] = (q : Int) := by rw [← hqe, getD_at _ _ _ hlt]
        rw [this, List.map_cons, List.map_nil, Int.toNat_natCast, hS, hcz])
      have b0 := Lib.hid x0
      have b1 := Lib.hid x1
      have hq0 : (0 : Int) ≤ (q : Int) := by omega
      have hq1 : (q : Int) < (L.length : Int) := by omega
      have hz0 : (0 : Int) ≤ (z : Int) := by omega
      have hz1' : (z : Int) < (S.length : Int) := by omega
      clear hrow hthq hS hrv ha3 hc3 hcv hcz hzy hzn hqe hbq hmemq
      go_wp2

      refine wp_region_held_drew (S := fun w' => w'.cell? ⟨gr, q, none⟩ = some (.slice (some ⟨g3, 0, none⟩) S.length c3) ∧ w'.cell? ⟨g3, z, none⟩ = some (.int .i64 cv) ∧ Below w3.heap.size w3 w') (by kernel_rfl) (by (try dsimp only); exact ⟨er, ez, bdn hB _⟩) (fun hHeld => ?_)
      refine wpAnyH_take (i := 0) (v := ?v131) rfl (by kernel_rfl) (by kernel_rfl) (by kernel_rfl) (fun _ _ _ h => h) (Or.inl ⟨by rfl, ?hy131⟩) (by assumption) ?rest131
      case hy131 => (intro w hSw; (try dsimp only at hSw); go_simp; (try with_reducible rfl))
      simp only [Act.put, List.getElem_toArray, List.getElem_cons_zero, List.setIfInBounds_toArray, List.set_cons_zero, List.set_cons_succ]
      refine wpAnyH_take (i := 1) (v := ?v132) rfl (by kernel_rfl) (by kernel_rfl) (by kernel_rfl) (fun _ _ _ h => h) (Or.inl ⟨by rfl, ?hy132⟩) (by assumption) ?rest132
      case hy132 => (intro w hSw; (try dsimp only at hSw); go_simp; (try with_reducible rfl))
      simp only [Act.put, List.getElem_toArray, List.getElem_cons_zero, List.getElem_cons_succ, List.setIfInBounds_toArray, List.set_cons_zero, List.set_cons_succ]
      refine wpAnyH_take (i := 2) (v := ?v133) rfl (by kernel_rfl) (by kernel_rfl) (by kernel_rfl) (fun _ _ _ h => h) (Or.inl ⟨by rfl, ?hy133⟩) (by assumption) ?rest133
      case hy133 => (intro w hSw; (try dsimp only at hSw); go_simp; (try with_reducible rfl))
      simp only [Act.put, List.getElem_toArray, List.getElem_cons_zero, List.getElem_cons_succ, List.setIfInBounds_toArray, List.set_cons_zero, List.set_cons_succ]
      refine wpAnyH_take (i := 3) (v := ?v134) rfl (by kernel_rfl) (by kernel_rfl) (by kernel_rfl) (fun _ _ _ h => h) (Or.inl ⟨by rfl, ?hy134⟩) (by assumption) ?rest134
      case hy134 => (intro w hSw; (try dsimp only at hSw); go_simp; (try with_reducible rfl))
      simp only [Act.put, List.getElem_toArray, List.getElem_cons_zero, List.getElem_cons_succ, List.setIfInBounds_toArray, List.set_cons_zero, List.set_cons_succ]
      refine wpAnyH_take (i := 4) (v := ?v135) rfl (by kernel_rfl) (by kernel_rfl) (by kernel_rfl) (fun _ _ _ h => h) (Or.inl ⟨by rfl, ?hy135⟩) (by assumption) ?rest135
      case hy135 => (intro w hSw; (try dsimp only at hSw); obtain ⟨s1, s2, _⟩ := hSw; go_simp; (try with_reducible rfl))
      simp only [Act.put, List.getElem_toArray, List.getElem_cons_zero, List.getElem_cons_succ, List.setIfInBounds_toArray, List.set_cons_zero, List.set_cons_succ]
      refine wpAnyH_take (i := 5) (v := ?v136) rfl (by kernel_rfl) (by kernel_rfl) (by kernel_rfl) (fun _ _ _ h => h) (Or.inl ⟨by rfl, ?hy136⟩) (by assumption) ?rest136
      case hy136 => (intro w hSw; (try dsimp only at hSw); go_simp; (try with_reducible rfl))
      simp only [Act.put, List.getElem_toArray, List.getElem_cons_zero, List.getElem_cons_succ, List.setIfInBounds_toArray, List.set_cons_zero, List.set_cons_succ]
      refine wpAnyH_take (i := 6) (v := ?v137) rfl (by kernel_rfl) (by kernel_rfl) (by kernel_rfl) (fun _ _ _ h => h) (Or.inl ⟨by rfl, ?hy137⟩) (by assumption) ?rest137
      case hy137 => (intro w hSw; (try dsimp only at hSw); go_simp; (try with_reducible rfl))
      simp only [Act.put, List.getElem_toArray, List.getElem_cons_zero, List.getElem_cons_succ, List.setIfInBounds_toArray, List.set_cons_zero, List.set_cons_succ]
      refine wpAnyH_take (i := 7) (v := ?v138) rfl (by kernel_rfl) (by kernel_rfl) (by kernel_rfl) (fun _ _ _ h => h) (Or.inl ⟨by rfl, ?hy138⟩) (by assumption) ?rest138
      case hy138 => (intro w hSw; (try dsimp only at hSw); go_simp; (try with_reducible rfl))
      simp only [Act.put, List.getElem_toArray, List.getElem_cons_zero, List.getElem_cons_succ, List.setIfInBounds_toArray, List.set_cons_zero, List.set_cons_succ]
      refine wpAnyH_take (i := 8) (v := ?v139) rfl (by kernel_rfl) (by kernel_rfl) (by kernel_rfl) (fun _ _ _ h => h) (Or.inl ⟨by rfl, ?hy139⟩) (by assumption) ?rest139
      case hy139 => (intro w hSw; (try dsimp only at hSw); obtain ⟨s1, s2, _⟩ := hSw; go_simp; (try with_reducible rfl))
      simp only [Act.put, List.getElem_toArray, List.getElem_cons_zero, List.getElem_cons_succ, List.setIfInBounds_toArray, List.set_cons_zero, List.set_cons_succ]
      refine wpAnyH_take (i := 9) (v := ?v140) rfl (by kernel_rfl) (by kernel_rfl) (by kernel_rfl) (fun _ _ _ h => h) (Or.inl ⟨by rfl, ?hy140⟩) (by assumption) ?rest140
      case hy140 => (intro w hSw; (try dsimp only at hSw); go_simp; (try with_reducible rfl))
      simp only [Act.put, List.getElem_toArray, List.getElem_cons_zero, List.getElem_cons_succ, List.setIfInBounds_toArray, List.set_cons_zero, List.set_cons_succ]
      refine wpAnyH_ready (rs := [10]) (by kernel_rfl) (by simp) ?_
      refine AllReadyH.cons rfl (fun K hK => ?_) AllReadyH.nil
      simp only [List.getElem_toArray, List.getElem_cons_zero, List.getElem_cons_succ]
      go_simp
      go_at_call 108; (refine (cornerIdx _ S x y (w.heap.size + 1) z _ _ _ (HROW.out.later hHeld.2.2) (by omega) (cellB hHeld.2.2 b0.out) (cellB hHeld.2.2 b1.out) hzl HZY.out HZN.out).mono ?_); rintro e w5 ⟨rfl, hb5⟩; (have hw5 : Below wo.heap.size wo w5 := (bdn (Below.refl _ _) _).trans hb5)
      dsimp only
      refine hK.out _ _ (by (try dsimp only); exact ⟨cellB hb5 hHeld.1, cellB hb5 hHeld.2.1, hHeld.2.2.trans (hb5.mono hHeld.2.2.size)⟩) (fun hHeld => ?_)
      clear hK K
      refine wpAnyH_take (i := 11) (v := ?v141) rfl (by kernel_rfl) (by kernel_rfl) (by kernel_rfl) (fun _ _ _ h => h) (Or.inl ⟨by rfl, ?hy141⟩) (by assumption) ?rest141
      case hy141 => (intro w hSw; (try dsimp only at hSw); go_simp; (try with_reducible rfl))
      simp only [Act.put, List.getElem_toArray, List.getElem_cons_zero, List.getElem_cons_succ, List.setIfInBounds_toArray, List.set_cons_zero, List.set_cons_succ]
      refine wpAnyH_take (i := 12) (v := ?v142) rfl (by kernel_rfl) (by kernel_rfl) (by kernel_rfl) (fun _ _ _ h => h) (Or.inl ⟨by rfl, ?hy142⟩) (by assumption) ?rest142
      case hy142 => (intro w hSw; (try dsimp only at hSw); obtain ⟨s1, s2, _⟩ := hSw; go_simp; (try with_reducible rfl))
      simp only [Act.put, List.getElem_toArray, List.getElem_cons_zero, List.getElem_cons_succ, List.setIfInBounds_toArray, List.set_cons_zero, List.set_cons_succ]
      have hH5 := hHeld
      refine wpAnyH_ready (rs := [13]) (by kernel_rfl) (by simp) ?_
      refine AllReadyH.cons rfl (fun K hK => ?_) AllReadyH.nil
      simp only [List.getElem_toArray, List.getElem_cons_zero, List.getElem_cons_succ]
      go_simp
      refine hK.out _ _ (by (try dsimp only); exact ⟨cellB (by go_grown) hH5.1, cellB (by go_grown) hH5.2.1, hH5.2.2.alloc hH5.2.2.size _⟩) (fun hHeld => ?_)
      clear hK K
      refine wpAnyH_ready (rs := [14]) (by kernel_rfl) (by simp) ?_
      refine AllReadyH.cons rfl (fun K hK => ?_) AllReadyH.nil
      simp only [List.getElem_toArray, List.getElem_cons_zero, List.getElem_cons_succ]
      refine wp_append_int _ _ 33 rfl w3.heap.size 3 Try.underlying33 info_int _ _ rfl (HI.out.later hw5) cv rfl (by simp; omega) (by have := hH5.2.2.size; omega) ?_; intro v9 w9 hI9 hg9
      refine hK.out _ _ (by (try dsimp only); exact ⟨hg9.cell hH5.1 (fun e => absurd (HI.out.own gr e.symm).1 (by omega)), hg9.cell hH5.2.1 (fun e => absurd (HI.out.own g3 e.symm).1 (by omega)), hH5.2.2.grown hg9 hH5.2.2.size (fun k hk => (HI.out.own k hk).1)⟩) (fun hHeld => ?_)
      clear hK K
      simp only [Act.put, List.setIfInBounds_toArray, List.set_cons_zero, List.set_cons_succ]
      refine wpAnyH_take (i := 15) (v := ?v143) rfl (by kernel_rfl) (by kernel_rfl) (by kernel_rfl) (fun _ _ _ h => h) (Or.inl ⟨by rfl, ?hy143⟩) (by assumption) ?rest143
      case hy143 => (intro w hSw; (try dsimp only at hSw); go_simp; (try with_reducible rfl))
      simp only [Act.put, List.getElem_toArray, List.getElem_cons_zero, List.getElem_cons_succ, List.setIfInBounds_toArray, List.set_cons_zero, List.set_cons_succ]
      refine wpAnyH_done (by kernel_rfl) ?_ _
      go_wp2
      go_roundw
      case rel => exact ⟨j + 1, by omega, by go_num, Lib.hid (by rw [HQ.out]; exact hI9), hHeld.2.2⟩
      case measure => simp [intOf]; omega
    · obtain rfl : j = idx.length := by omega
      have hI := HI.out
      rw [List.take_length, HMP.out] at hI
      obtain ⟨a7, c7, g7, hv7, ha7, _, _, _, hc7, _⟩ := hI.view
      obtain rfl := ha7 (by simp)
      subst hv7
      have u0 : wo.cell? ⟨g7, 0, none⟩ = some (.int .i64 u) := hc7 0 (by simp)
      have u1 : wo.cell? ⟨g7, 1, none⟩ = some (.int .i64 v) := hc7 1 (by simp)
      have lg7 : g7 < wo.heap.size := by have := World.block_lt_of_cell? _ _ u0; simpa using this
      have yd := cellB hB y1
      have hB0 := hB3.trans (hB.mono (by omega))
      have HXK := Lib.hid (HH.out.1.src.later hB0)
      have hlt' : ¬ (idx.length : Int) < (idx.length : Int) := by omega
      have hz0 := hB0.size
      clear hI hc7 HI ha7
      go_wp2_with (first | (go_at_call 109; (refine (cloneC_any ⟨gx, 0, none⟩ cap xs _ HXK.out (by omega)).mono ?_); rintro e w5 ⟨v5, rfl, hI5, hb5⟩; (have hz5 := hb5.size); (have u0 := cellB hb5 u0); (have u1 := cellB hb5 u1); (obtain ⟨a5, c5, g5, rfl, ha5, hm5, _, _⟩ := hI5.view); (obtain rfl := ha5 (by omega)); (have lg5 := (hI5.own g5 rfl).1); (have HI5 := Lib.hid hI5); clear hI5 ha5 hm5))

      refine wp_region_held_drew (S := fun w' => w'.cell? ⟨g7, 0, none⟩ = some (.int .i64 u) ∧ w'.cell? ⟨g7, 1, none⟩ = some (.int .i64 v) ∧ Below wo.heap.size wo w') (by kernel_rfl) (by (try dsimp only); exact ⟨u0, u1, bdn hb5 _⟩) (fun hHeld => ?_)
      refine wpAnyH_take (i := 0) (v := ?v144) rfl (by kernel_rfl) (by kernel_rfl) (by kernel_rfl) (fun _ _ _ h => h) (Or.inl ⟨by rfl, ?hy144⟩) (by assumption) ?rest144
      case hy144 => (intro w hSw; (try dsimp only at hSw); go_simp; (try with_reducible rfl))
      simp only [Act.put, List.getElem_toArray, List.getElem_cons_zero, List.setIfInBounds_toArray, List.set_cons_zero, List.set_cons_succ]
      refine wpAnyH_take (i := 1) (v := ?v145) rfl (by kernel_rfl) (by kernel_rfl) (by kernel_rfl) (fun _ _ _ h => h) (Or.inl ⟨by rfl, ?hy145⟩) (by assumption) ?rest145
      case hy145 => (intro w hSw; (try dsimp only at hSw); go_simp; (try with_reducible rfl))
      simp only [Act.put, List.getElem_toArray, List.getElem_cons_zero, List.getElem_cons_succ, List.setIfInBounds_toArray, List.set_cons_zero, List.set_cons_succ]
      refine wpAnyH_take (i := 2) (v := ?v146) rfl (by kernel_rfl) (by kernel_rfl) (by kernel_rfl) (fun _ _ _ h => h) (Or.inl ⟨by rfl, ?hy146⟩) (by assumption) ?rest146
      case hy146 => (intro w hSw; (try dsimp only at hSw); go_simp; (try with_reducible rfl))
      simp only [Act.put, List.getElem_toArray, List.getElem_cons_zero, List.getElem_cons_succ, List.setIfInBounds_toArray, List.set_cons_zero, List.set_cons_succ]
      refine wpAnyH_take (i := 3) (v := ?v147) rfl (by kernel_rfl) (by kernel_rfl) (by kernel_rfl) (fun _ _ _ h => h) (Or.inl ⟨by rfl, ?hy147⟩) (by assumption) ?rest147
      case hy147 => (intro w hSw; (try dsimp only at hSw); go_simp; (try with_reducible rfl))
      simp only [Act.put, List.getElem_toArray, List.getElem_cons_zero, List.getElem_cons_succ, List.setIfInBounds_toArray, List.set_cons_zero, List.set_cons_succ]
      refine wpAnyH_take (i := 4) (v := ?v148) rfl (by kernel_rfl) (by kernel_rfl) (by kernel_rfl) (fun _ _ _ h => h) (Or.inl ⟨by rfl, ?hy148⟩) (by assumption) ?rest148
      case hy148 => (intro w hSw; (try dsimp only at hSw); obtain ⟨s1, s2, _⟩ := hSw; go_simp; (try with_reducible rfl))
      simp only [Act.put, List.getElem_toArray, List.getElem_cons_zero, List.getElem_cons_succ, List.setIfInBounds_toArray, List.set_cons_zero, List.set_cons_succ]
      refine wpAnyH_take (i := 5) (v := ?v149) rfl (by kernel_rfl) (by kernel_rfl) (by kernel_rfl) (fun _ _ _ h => h) (Or.inl ⟨by rfl, ?hy149⟩) (by assumption) ?rest149
      case hy149 => (intro w hSw; (try dsimp only at hSw); go_simp; (try with_reducible rfl))
      simp only [Act.put, List.getElem_toArray, List.getElem_cons_zero, List.getElem_cons_succ, List.setIfInBounds_toArray, List.set_cons_zero, List.set_cons_succ]
      refine wpAnyH_take (i := 6) (v := ?v150) rfl (by kernel_rfl) (by kernel_rfl) (by kernel_rfl) (fun _ _ _ h => h) (Or.inl ⟨by rfl, ?hy150⟩) (by assumption) ?rest150
      case hy150 => (intro w hSw; (try dsimp only at hSw); go_simp; (try with_reducible rfl))
      simp only [Act.put, List.getElem_toArray, List.getElem_cons_zero, List.getElem_cons_succ, List.setIfInBounds_toArray, List.set_cons_zero, List.set_cons_succ]
      refine wpAnyH_take (i := 7) (v := ?v151) rfl (by kernel_rfl) (by kernel_rfl) (by kernel_rfl) (fun _ _ _ h => h) (Or.inl ⟨by rfl, ?hy151⟩) (by assumption) ?rest151
      case hy151 => (intro w hSw; (try dsimp only at hSw); obtain ⟨s1, s2, _⟩ := hSw; go_simp; (try with_reducible rfl))
      simp only [Act.put, List.getElem_toArray, List.getElem_cons_zero, List.getElem_cons_succ, List.setIfInBounds_toArray, List.set_cons_zero, List.set_cons_succ]
      refine wpAnyH_ready (rs := [8]) (by kernel_rfl) (by simp) ?_
      refine AllReadyH.cons rfl (fun K hK => ?_) AllReadyH.nil
      simp only [List.getElem_toArray, List.getElem_cons_zero, List.getElem_cons_succ]
      go_simp
      go_at_call 90; (refine (chordBt_any u v _).mono ?_); rintro e w6 ⟨rfl, hb6⟩; (have hw6 : Below w5.heap.size w5 w6 := (bdn (Below.refl _ _) _).trans hb6); (have hI6 := HI5.out.later hw6); (have d0 := hI6.cell0 k hk); (have d1 := hI6.cell1 k hk); (have f0 := hI6.frozenAt (k * 2)); (have f1 := hI6.frozenAt (k * 2 + 1)); (have HS6 := Lib.hid (hI6.stored k hk (min u v) (max u v)))
      dsimp only
      refine hK.out _ _ (by (try dsimp only); exact ⟨cellB hb6 hHeld.1, cellB hb6 hHeld.2.1, hHeld.2.2.trans (hb6.mono hHeld.2.2.size)⟩) (fun hHeld => ?_)
      clear hK K
      refine wpAnyH_take (i := 9) (v := ?v152) rfl (by kernel_rfl) (by kernel_rfl) (by kernel_rfl) (fun _ _ _ h => h) (Or.inl ⟨by rfl, ?hy152⟩) (by assumption) ?rest152
      case hy152 => (intro w hSw; (try dsimp only at hSw); go_simp; (try with_reducible rfl))
      simp only [Act.put, List.getElem_toArray, List.getElem_cons_zero, List.getElem_cons_succ, List.setIfInBounds_toArray, List.set_cons_zero, List.set_cons_succ]
      have hH6 := hHeld
      refine wpAnyH_ready (rs := [10]) (by kernel_rfl) (by simp) ?_
      refine AllReadyH.cons rfl (fun K hK => ?_) AllReadyH.nil
      simp only [List.getElem_toArray, List.getElem_cons_zero, List.getElem_cons_succ]
      go_simp
      refine hK.out _ _ (by (try dsimp only); exact ⟨HS6.out.2.cell hH6.1 (by simp; omega), HS6.out.2.cell hH6.2.1 (by simp; omega), hH6.2.2.grown HS6.out.2 hH6.2.2.size (fun q hq => by cases hq; exact lg5)⟩) (fun hHeld => ?_)
      clear hK K
      refine wpAnyH_done (by kernel_rfl) ?_ _
      go_wp2_with (first | (go_at_call 110; refine (sortC_any _ _ wo.heap.size _ HS6.out.1 (by simp; omega)).mono ?_; rintro e w8 ⟨rfl, hp8, hg8⟩))
      go_ret
      exact ⟨_, rfl, PairsIn.wider hp8.inn hz0 (Nat.le_refl _), hB0.trans ((hHeld.2.2.grown hg8 hHeld.2.2.size (fun q hq => by cases hq; exact lg5)).mono hz0)⟩
end Go.Proofs.Ytnldnjgnpdicnaa
