/- Regions, the model: its list of regions. -/
import Derived.Test.YtnldnjgnpdicnaaRH
import Derived.Test.YtnldnjgnpdicnaaBA
import Derived.Test.YtnldnjgnpdicnaaET
namespace Go.Proofs.Ytnldnjgnpdicnaa
open Go.RowKit
set_option linter.unusedVariables false

theorem OwnV.view {w : World} {B : Nat} {v : Value} {rs : List (Value × List Int)} (h : w.ownsRow B 33 1 v (rs.map (·.1)).length (rs.map (·.1))) : ∃ (a0 : Option Addr) (cap g : Nat), v = .slice a0 rs.length cap ∧ (0 < rs.length → a0 = some ⟨g, 0, none⟩) ∧ (a0 = none → cap = 0) ∧ (∀ a, a0 = some a → a = ⟨g, 0, none⟩) ∧ rs.length ≤ cap ∧ cap ≤ maxLen ∧ ∀ i, i < rs.length → w.cell? ⟨g, i, none⟩ = some (rs.getD i ((Value.slice none 0 0), [])).1 := by
  rcases h.2 with ⟨hv, hn⟩ | ⟨g, cap, cur, hv, hB, hg, hn, hm, hs, ht⟩
  · rw [List.length_map] at hn
    exact ⟨none, 0, 0, by rw [hn]; exact hv, (fun h => by omega), (fun _ => rfl), (fun a ha => by cases ha), (by omega), (by unfold maxLen; omega), fun i hi => by omega⟩
  · subst hv
    rw [List.length_map] at hn ht
    refine ⟨some ⟨g, 0, none⟩, cap, g, by rw [List.length_map], fun _ => rfl, (fun h => by cases h), (fun a ha => by cases ha; rfl), hn, by omega, fun i hi => ?_⟩
    have ht' : cur.toList.take rs.length = rs.map (·.1) := by rwa [Nat.mul_one] at ht
    have h1 : (rs.map (·.1))[i]? = some (rs.getD i ((Value.slice none 0 0), [])).1 := by
      rw [List.getElem?_map, List.getD_eq_getElem?_getD, List.getElem?_eq_getElem hi]; rfl
    rw [← ht', List.getElem?_take_of_lt hi] at h1
    simp only [World.cell?, hg]
    simpa using h1

theorem filter_take_step (f : Int → Bool) (l : List Int) (m : Nat) (hm : m < l.length) : (l.take (m + 1)).filter f = (l.take m).filter f ++ (if f (l.getD m 0) then [l.getD m 0] else []) := by
  rw [List.take_succ_eq_append_getElem hm, List.filter_append, List.getD_eq_getElem?_getD, List.getElem?_eq_getElem hm]
  simp only [Option.getD_some, List.filter_cons, List.filter_nil]

theorem filter_yes {f : Int → Bool} {l : List Int} {m : Nat} (hm : m < l.length) {p : Int} (hp : l.getD m 0 = p) (h : f p = true) : (l.take (m + 1)).filter f = (l.take m).filter f ++ [p] := by
  rw [filter_take_step f l m hm, hp, h]; rfl
theorem filter_no {f : Int → Bool} {l : List Int} {m : Nat} (hm : m < l.length) {p : Int} (hp : l.getD m 0 = p) (h : f p = false) : (l.take (m + 1)).filter f = (l.take m).filter f := by
  rw [filter_take_step f l m hm, hp, h]; simp

theorem whole_mem (n : Nat) (p : Int) (h0 : 0 ≤ p) (h1 : p < n) : p ∈ selT (fun _ => true) n := by
  unfold selT
  rw [List.mem_map]
  exact ⟨p.toNat, by simp; omega, by omega⟩

theorem regs_one {n k : Nat} {xs : List (Int × Int)} (hg : goodC n xs) (hpl : allP xs xs.length = []) (hk : k < xs.length) {x y : Int} (hxy : xs.getD k (0, 0) = (x, y)) (hb : bothR (x, y) (selT (fun _ => true) n) = true) :
    numR (x, y) (regsF [selT (fun _ => true) n] (xs.take k)) = 1 := by
  have hP := plane_of_good hg hpl
  have e1 : xs[k] = (x, y) := by rw [← hxy, List.getD_eq_getElem?_getD, List.getElem?_eq_getElem hk]; rfl
  have hpw := hP.2
  rw [List.pairwise_iff_getElem] at hpw
  rw [numR_regs (by rw [← e1]; exact hP.1 _ (List.getElem_mem _))]
  · simp [numR, hb]
  · intro c hc
    obtain ⟨i, hi, rfl⟩ := List.mem_iff_getElem.1 hc
    simp at hi
    rw [List.getElem_take]
    refine ⟨hP.1 _ (List.getElem_mem _), ?_⟩
    have := hpw i k (by omega) hk (by omega)
    rwa [e1] at this

/-- One chord more parts one region. -/
theorem regs_step {n k fr : Nat} {xs : List (Int × Int)} {rs : List (Value × List Int)} {x y : Int} {pts : List Int} (hrs : rs.map (·.2) = regsF [selT (fun _ => true) n] (xs.take k)) (hk : k < xs.length) (hxy : xs.getD k (0, 0) = (x, y)) (hnum : numR (x, y) (rs.map (·.2)) = 1)
    (hfr : firstR (x, y) (rs.map (·.2)) = fr) (hp : (rs.getD fr ((Value.slice none 0 0), [])).2 = pts) (hlen : rs.length = k + 1) (h60 : ∀ r ∈ rs, r.2.length ≤ 60) (p q : Value) :
    (rs.take fr ++ [(p, pts.filter (inS (x, y))), (q, pts.filter (outS (x, y)))] ++ rs.drop (fr + 1)).map (·.2) = regsF [selT (fun _ => true) n] (xs.take (k + 1)) ∧
    (rs.take fr ++ [(p, pts.filter (inS (x, y))), (q, pts.filter (outS (x, y)))] ++ rs.drop (fr + 1)).length = k + 1 + 1 ∧
    ∀ r ∈ rs.take fr ++ [(p, pts.filter (inS (x, y))), (q, pts.filter (outS (x, y)))] ++ rs.drop (fr + 1), r.2.length ≤ 60 := by
  obtain ⟨h1, h2⟩ := splitF_first hnum
  rw [hfr] at h1 h2
  rw [List.length_map] at h1
  have hpl : pts.length ≤ 60 := by rw [← hp]; exact h60 _ (getD_mem _ _ _ h1)
  refine ⟨?_, by simp; omega, fun r hr => ?_⟩
  · rw [List.take_succ_eq_append_getElem hk, regsF_snoc, ← hrs]
    have e1 : xs[k] = (x, y) := by rw [← hxy, List.getD_eq_getElem?_getD, List.getElem?_eq_getElem hk]; rfl
    rw [e1, h2, map_getD _ rs fr ((Value.slice none 0 0), []) _ h1, hp]
    simp [List.map_append, List.map_take, List.map_drop]
  · rcases List.mem_append.1 hr with hr | hr
    · rcases List.mem_append.1 hr with hr | hr
      · exact h60 _ (List.mem_of_mem_take hr)
      · simp at hr
        rcases hr with rfl | rfl
        · exact Nat.le_trans (List.length_filter_le _ _) hpl
        · exact Nat.le_trans (List.length_filter_le _ _) hpl
    · exact h60 _ (List.mem_of_mem_drop hr)

theorem insert_perm {α : Type} {os rs : List α} {m k : Nat} {r z : α} (h : os.Perm (rs.take m)) (hm : m < rs.length) (hr : rs.getD m z = r) : (os.take k ++ [r] ++ os.drop k).Perm (rs.take (m + 1)) := by
  rw [List.take_succ_eq_append_getElem hm]
  have e1 : rs[m] = r := by rw [← hr, List.getD_eq_getElem?_getD, List.getElem?_eq_getElem hm]; rfl
  rw [e1]
  have h1 : (os.take k ++ [r] ++ os.drop k).Perm ([r] ++ (os.take k ++ os.drop k)) := by
    rw [← List.append_assoc]
    exact List.Perm.append_right _ List.perm_append_comm
  rw [List.take_append_drop] at h1
  exact h1.trans (List.perm_append_comm.trans (h.append_right _))

set_option maxHeartbeats 8000000 in
set_option maxRecDepth 100000 in
theorem reList_any (n : Nat) (u : Value) (xs : List (Int × Int)) (B T : Nat) (w : World) (h : PairsIn 52 w B T u xs) (hT : T ≤ w.heap.size) (hg : goodC n xs) (hpl : allP xs xs.length = []) :
    Calls Try.prog 51 #[.int .i64 n, u] w fun e w' => ∃ v rs, e = .returned v ∧ OwnV w' w.heap.size v rs ∧ (rs.map (·.2)).Perm (regsF [selT (fun _ => true) n] xs) ∧ SortedL (rs.map (·.2)) ∧ Below w.heap.size w w' := by
  have hn : 3 ≤ n ∧ n ≤ 60 := by have := hg.1; omega
  have hl := hg.2.1
  have ho := chord_order hg
  have hbo : ∀ k x y, k < xs.length → xs.getD k (0, 0) = (x, y) → bothR (x, y) (selT (fun _ => true) n) = true ∧ x < y := fun k x y hk hxy => by
    have h1 := (hg.2.2 k hk).1
    have h2 := ho k hk
    rw [hxy] at h1 h2
    simp only at h1 h2
    rw [bothR_iff]
    exact ⟨⟨whole_mem n x (by omega) (by omega), whole_mem n y (by omega) (by omega)⟩, h2⟩
  have HBO := Lib.hid hbo
  have HG := Lib.hid hg
  have HPL := Lib.hid hpl
  obtain ⟨a1, c1, g1, rfl, ha1, hmm, hx1, hy1⟩ := h.pairs.view
  have X := Lib.hid hx1
  have Y := Lib.hid hy1
  have HA := Lib.hid ha1
  clear h ha1 hx1 hy1 hmm hbo hg hpl ho
  go_enter Try.func51, Try.ntmps51
  go_wp2
  go_loopw [5, 6] (fun u i wr => ∃ k : Nat, k ≤ n ∧ i = .int .i64 k ∧ Ints wr w.heap.size 3 u (selT (fun _ => true) k) ∧ Below w.heap.size w wr) (fun _ i _ => n - (intOf i).toNat)
  case atStart => exact ⟨0, by omega, rfl, World.ownsRow_nil _ _ _ _, Below.refl _ _⟩
  case round =>
    obtain ⟨k, hk, rfl, hI, hB⟩ := hrel
    have HI := Lib.hid hI
    have hz := hB.size
    clear hI
    have hlen := selT_length (fun _ => true) k
    by_cases hlt : k < n
    · have HS := Lib.hid (selT_yes (fun _ => true) k rfl)
      go_wp2_with (at_builtin; refine wpList_append_int rfl _ _ 33 rfl (w.heap.size) 3 Try.underlying33 info_int _ _ rfl HI.out ((k : Int)) rfl (by omega) (by omega) ?_; intro v' w' hI' hg';  have hB' := HI.out.below hB hz hg'; rw [HS.out] at hI'; have HI' := Lib.hid hI'; clear hI' hB)
      go_roundw
      case rel => exact ⟨k + 1, by omega, by go_num, HI'.out, hB'⟩
      case measure => simp [intOf]; omega
    · obtain rfl : n = k := by omega
      obtain ⟨au, cu, rfl⟩ := HI.out.openedR
      go_wp2
      go_loopw [7, 35] (fun v i wr => ∃ k : Nat, k ≤ xs.length ∧ i = .int .i64 k ∧ Hid (∃ rs, OwnV wr w.heap.size v rs ∧ rs.map (·.2) = regsF [selT (fun _ => true) n] (xs.take k) ∧ rs.length = k + 1 ∧ ∀ r ∈ rs, r.2.length ≤ 60) ∧ Below w.heap.size w wr) (fun _ i _ => xs.length - (intOf i).toNat)
      case atStart =>
        refine ⟨0, by omega, rfl, Lib.hid ⟨[(.slice au (selT (fun _ => true) n).length cu, selT (fun _ => true) n)], ⟨ownsRow_boxed wr w.heap.size 33 [_] hz (by simp), fun r hr => ?_, by simp⟩, by simp [regsF], rfl, fun r hr => ?_⟩, hB.alloc hz _⟩
        · simp at hr; subst hr
          exact ⟨HI.out.later (by go_grown), fun b hb => by have := (HI.out.own b hb).2; simp; omega⟩
        · simp at hr; subst hr
          show (selT (fun _ => true) n).length ≤ 60
          omega
      case round =>
        clear HI hlen hB hz
        obtain ⟨k, hk, rfl, HR, hB⟩ := hrel
        obtain ⟨wo, rfl⟩ : ∃ z, z = wr := ⟨wr, rfl⟩
        have hz := hB.size
        obtain ⟨rs, hO, hrs, hlen, h60⟩ := HR.out
        obtain ⟨a0, cap, g, rfl, ha0, _, _, hcap, hcm, hcl⟩ := OwnV.view hO.outer
        unfold maxLen at hcm
        have HO := Lib.hid hO
        have HRS := Lib.hid hrs
        have H60 := Lib.hid h60
        have HLEN := Lib.hid hlen
        have hl1 : rs.length ≤ k + 1 := by omega
        have hl2 : k + 1 ≤ rs.length := by omega
        have HCL := Lib.hid hcl
        have HA0 := Lib.hid ha0
        clear HR hO hrs h60 hcl ha0 hlen
        by_cases hlt : k < xs.length
        · obtain rfl := HA.out (by omega)
          obtain rfl := HA0.out (by omega)
          obtain ⟨x, y, hxy⟩ : ∃ x y, xs.getD k (0, 0) = (x, y) := ⟨_, _, rfl⟩
          have cx := cellB hB (X.out k hlt)
          have cy := cellB hB (Y.out k hlt)
          rw [hxy] at cx cy
          simp only at cx cy
          obtain ⟨hbw, hxy2⟩ := HBO.out k x y hlt hxy
          have hnum := regs_one HG.out HPL.out hlt hxy hbw
          rw [← HRS.out] at hnum
          obtain ⟨fr, hfr⟩ : ∃ fr, firstR (x, y) (rs.map (·.2)) = fr := ⟨_, rfl⟩
          have hfl := (splitF_first hnum).1
          have hbefore := numR_before (c := (x, y)) (L := rs.map (·.2))
          have hat := numR_at hfl
          rw [hfr] at hfl hbefore hat
          rw [List.length_map] at hfl hbefore
          rw [map_getD _ rs fr ((Value.slice none 0 0), []) _ hfl] at hat
          have HXY := Lib.hid hxy
          have HNUM := Lib.hid hnum
          have HFR := Lib.hid hfr
          have HBF := Lib.hid hbefore
          have HAT := Lib.hid hat
          clear hxy hbw hnum hfr hbefore hat
          go_wp2
          go_loopw [7, 41] (fun v i wr => ∃ k2 : Nat, k2 ≤ fr ∧ i = .int .i64 k2 ∧ v = .slice (some ⟨g, 0, none⟩) rs.length cap ∧ Below wo.heap.size wo wr ∧ wo.heap.size < wr.heap.size ∧ wr.cell? ⟨wo.heap.size, 0, none⟩ = some (.int .i64 x) ∧ wr.cell? ⟨wo.heap.size, 1, none⟩ = some (.int .i64 y)) (fun _ i _ => rs.length - (intOf i).toNat)
          case atStart => exact ⟨0, by omega, rfl, rfl, by go_grown, by simp, by go_simp, by go_simp⟩
          case round =>
            obtain ⟨k2, hk2, rfl, rfl, hB2, hz2, b0, b1⟩ := hrel
            have e0 := cellB hB2 (HCL.out k2 (by omega))
            obtain ⟨rv, pts, hr⟩ : ∃ rv pts, rs.getD k2 ((Value.slice none 0 0), []) = (rv, pts) := ⟨_, _, rfl⟩
            have hrow := HO.out.rows.each _ (getD_mem rs k2 ((Value.slice none 0 0), []) (by omega))
            have hp60 := H60.out _ (getD_mem rs k2 ((Value.slice none 0 0), []) (by omega))
            rw [hr] at e0 hrow hp60
            simp only at e0 hrow hp60
            obtain ⟨a2, c2, g2, rfl, ha2, _, _, _, hc2, _⟩ := hrow.1.view
            have HROW := Lib.hid (hrow.1.later hB2)
            have HA2 := Lib.hid ha2
            have HC2 := Lib.hid hc2
            have HRR := Lib.hid hr
            obtain ⟨tx, htx⟩ : ∃ t, pts.contains x = t := ⟨_, rfl⟩
            obtain ⟨ty, hty⟩ : ∃ t, pts.contains y = t := ⟨_, rfl⟩
            have HTX := Lib.hid htx
            have HTY := Lib.hid hty
            have hq2 : k2 < rs.length := by omega
            clear hrow ha2 hc2 hr htx hty
            by_cases hf : k2 = fr
            · subst hf
              obtain rfl : tx = true := by
                have := HAT.out
                rw [HRR.out] at this
                rw [← HTX.out, List.contains_iff_mem]
                exact ((bothR_iff _ _).1 this).1
              obtain rfl : ty = true := by
                have := HAT.out
                rw [HRR.out] at this
                rw [← HTY.out, List.contains_iff_mem]
                exact ((bothR_iff _ _).1 this).2
              go_wp2_with (go_at_call 52; (first | (with_reducible refine (has_any _ pts x _ _ _ _ HROW.out (by omega) HTX.out).mono ?_) | (with_reducible refine (has_any _ pts y _ _ _ _ HROW.out (by omega) HTY.out).mono ?_)); rintro e w1 ⟨rfl, rfl⟩)
              obtain ⟨w1, rfl⟩ : ∃ z, z = wr := ⟨wr, rfl⟩
              go_loopw [12, 13, 60] (fun p q i wr => ∃ m : Nat, m ≤ pts.length ∧ i = .int .i64 m ∧ Hid (TwoL wr w1.heap.size p q ((pts.take m).filter (inS (x, y))) ((pts.take m).filter (outS (x, y)))) ∧ Below w1.heap.size w1 wr) (fun _ _ i _ => pts.length - (intOf i).toNat)
              case atStart => exact ⟨0, by omega, rfl, Lib.hid (TwoL.start _ _), Below.refl _ _⟩
              case round =>
                obtain ⟨m, hm, rfl, HW, hB3⟩ := hrel
                have hz3 := hB3.size
                have hwl := HW.out.one.1
                have hwr := HW.out.two.1
                obtain ⟨ap, cp, hep⟩ := HW.out.one.openedR
                obtain ⟨aq, cq, heq⟩ := HW.out.two.openedR
                subst hep heq
                have b2 := cellB hB3 b0
                have b3 := cellB hB3 b1
                by_cases hmt : m < pts.length
                · obtain rfl := HA2.out (by omega)
                  have e2 := cellB hB3 (cellB hB2 (HC2.out m hmt))
                  obtain ⟨p, hp⟩ : ∃ p, pts.getD m 0 = p := ⟨_, rfl⟩
                  rw [hp] at e2
                  have HP := Lib.hid hp
                  clear hp hwl hwr
                  have hlA : ((pts.take m).filter (inS (x, y))).length ≤ 60 := Nat.le_trans (List.length_filter_le _ _) (by simp; omega)
                  have hlB : ((pts.take m).filter (outS (x, y))).length ≤ 60 := Nat.le_trans (List.length_filter_le _ _) (by simp; omega)
                  by_cases hi : x ≤ p ∧ p ≤ y
                  · by_cases h1 : p ≤ x
                    · skip
                      have HD := Lib.hid (decide_eq_true hi)
                      have HF1 := Lib.hid (filter_yes (f := inS (x, y)) hmt HP.out (by unfold inS; exact HD.out))
                      have HF2 := Lib.hid (filter_yes (f := outS (x, y)) hmt HP.out (by unfold outS; simp only; simp; omega))
                      clear hi
                      go_wp2_with (first | (go_at_call 50; (with_reducible refine (l1In_any p x y _ _ HD.out).mono ?_); rintro e wz ⟨rfl, rfl⟩) | (at_builtin; refine wpList_append_int_lies rfl _ _ 33 rfl (w1.heap.size) 3 Try.underlying33 info_int _ _ rfl HW.out.one p _ rfl rfl (by omega) (by omega) ?_; intro g3 cap3 w2 hI2 hg2 hl2; have HW2 := Lib.hid (HW.out.left hI2 hg2 hl2); have hB4 := HW.out.one.below hB3 hz3 hg2; have hz4 := hB4.size; have b4 := cellB hB4 b0; have b5 := cellB hB4 b1; clear hI2 hg2 hl2) | (at_builtin; refine wpList_append_int_lies rfl _ _ 33 rfl (w1.heap.size) 3 Try.underlying33 info_int _ _ rfl HW2.out.two p _ rfl rfl (by omega) (by omega) ?_; intro g4 cap4 w3 hI3 hg3 hl3; have HW3 := Lib.hid (HW2.out.right hI3 hg3 hl3); have hB5 := HW2.out.two.below hB4 hz4 hg3; clear hI3 hg3 hl3))
                      go_roundw
                      case rel => exact ⟨m + 1, by omega, by go_num, Lib.hid (by rw [HF1.out, HF2.out]; exact HW3.out), hB5⟩
                      case measure => simp [intOf]; omega
                    · by_cases h2 : y ≤ p
                      · skip
                        have HD := Lib.hid (decide_eq_true hi)
                        have HF1 := Lib.hid (filter_yes (f := inS (x, y)) hmt HP.out (by unfold inS; exact HD.out))
                        have HF2 := Lib.hid (filter_yes (f := outS (x, y)) hmt HP.out (by unfold outS; simp only; simp; omega))
                        have h3 : ¬ p ≤ x := by omega
                        clear hi
                        go_wp2_with (first | (go_at_call 50; (with_reducible refine (l1In_any p x y _ _ HD.out).mono ?_); rintro e wz ⟨rfl, rfl⟩) | (at_builtin; refine wpList_append_int_lies rfl _ _ 33 rfl (w1.heap.size) 3 Try.underlying33 info_int _ _ rfl HW.out.one p _ rfl rfl (by omega) (by omega) ?_; intro g3 cap3 w2 hI2 hg2 hl2; have HW2 := Lib.hid (HW.out.left hI2 hg2 hl2); have hB4 := HW.out.one.below hB3 hz3 hg2; have hz4 := hB4.size; have b4 := cellB hB4 b0; have b5 := cellB hB4 b1; clear hI2 hg2 hl2) | (at_builtin; refine wpList_append_int_lies rfl _ _ 33 rfl (w1.heap.size) 3 Try.underlying33 info_int _ _ rfl HW2.out.two p _ rfl rfl (by omega) (by omega) ?_; intro g4 cap4 w3 hI3 hg3 hl3; have HW3 := Lib.hid (HW2.out.right hI3 hg3 hl3); have hB5 := HW2.out.two.below hB4 hz4 hg3; clear hI3 hg3 hl3))
                        go_roundw
                        case rel => exact ⟨m + 1, by omega, by go_num, Lib.hid (by rw [HF1.out, HF2.out]; exact HW3.out), hB5⟩
                        case measure => simp [intOf]; omega
                      · skip
                        have HD := Lib.hid (decide_eq_true hi)
                        have HF1 := Lib.hid (filter_yes (f := inS (x, y)) hmt HP.out (by unfold inS; exact HD.out))
                        have HF2 := Lib.hid (filter_no (f := outS (x, y)) hmt HP.out (by unfold outS; simp only; simp; omega))
                        clear hi
                        go_wp2_with (first | (go_at_call 50; (with_reducible refine (l1In_any p x y _ _ HD.out).mono ?_); rintro e wz ⟨rfl, rfl⟩) | (at_builtin; refine wpList_append_int_lies rfl _ _ 33 rfl (w1.heap.size) 3 Try.underlying33 info_int _ _ rfl HW.out.one p _ rfl rfl (by omega) (by omega) ?_; intro g3 cap3 w2 hI2 hg2 hl2; have HW2 := Lib.hid (HW.out.left hI2 hg2 hl2); have hB4 := HW.out.one.below hB3 hz3 hg2; have hz4 := hB4.size; have b4 := cellB hB4 b0; have b5 := cellB hB4 b1; clear hI2 hg2 hl2))
                        go_roundw
                        case rel => exact ⟨m + 1, by omega, by go_num, Lib.hid (by rw [HF1.out, HF2.out]; exact HW2.out), hB4⟩
                        case measure => simp [intOf]; omega
                  · by_cases h1 : p ≤ x
                    · skip
                      have HD := Lib.hid (decide_eq_false hi)
                      have HF1 := Lib.hid (filter_no (f := inS (x, y)) hmt HP.out (by unfold inS; exact HD.out))
                      have HF2 := Lib.hid (filter_yes (f := outS (x, y)) hmt HP.out (by unfold outS; simp only; simp; omega))
                      clear hi
                      go_wp2_with (first | (go_at_call 50; (with_reducible refine (l1In_any p x y _ _ HD.out).mono ?_); rintro e wz ⟨rfl, rfl⟩) | (at_builtin; refine wpList_append_int_lies rfl _ _ 33 rfl (w1.heap.size) 3 Try.underlying33 info_int _ _ rfl HW.out.two p _ rfl rfl (by omega) (by omega) ?_; intro g4 cap4 w3 hI3 hg3 hl3; have HW3 := Lib.hid (HW.out.right hI3 hg3 hl3); have hB5 := HW.out.two.below hB3 hz3 hg3; clear hI3 hg3 hl3))
                      go_roundw
                      case rel => exact ⟨m + 1, by omega, by go_num, Lib.hid (by rw [HF1.out, HF2.out]; exact HW3.out), hB5⟩
                      case measure => simp [intOf]; omega
                    · have h2 : y ≤ p := by omega
                      have HD := Lib.hid (decide_eq_false hi)
                      have HF1 := Lib.hid (filter_no (f := inS (x, y)) hmt HP.out (by unfold inS; exact HD.out))
                      have HF2 := Lib.hid (filter_yes (f := outS (x, y)) hmt HP.out (by unfold outS; simp only; simp; omega))
                      have h3 : ¬ p ≤ x := by omega
                      clear hi
                      go_wp2_with (first | (go_at_call 50; (with_reducible refine (l1In_any p x y _ _ HD.out).mono ?_); rintro e wz ⟨rfl, rfl⟩) | (at_builtin; refine wpList_append_int_lies rfl _ _ 33 rfl (w1.heap.size) 3 Try.underlying33 info_int _ _ rfl HW.out.two p _ rfl rfl (by omega) (by omega) ?_; intro g4 cap4 w3 hI3 hg3 hl3; have HW3 := Lib.hid (HW.out.right hI3 hg3 hl3); have hB5 := HW.out.two.below hB3 hz3 hg3; clear hI3 hg3 hl3))
                      go_roundw
                      case rel => exact ⟨m + 1, by omega, by go_num, Lib.hid (by rw [HF1.out, HF2.out]; exact HW3.out), hB5⟩
                      case measure => simp [intOf]; omega
                · obtain rfl : m = pts.length := by omega
                  have hW := HW.out
                  rw [List.take_length] at hW
                  have HT := Lib.hid hW
                  have hb23 : Below wo.heap.size wo wr := hB2.trans (hB3.mono (by omega))
                  have HS1 := Lib.hid ((ownsRow_src HO.out.outer).later hb23)
                  have HONE := Lib.hid (HO.out.rows.cells)
                  have HE := Lib.hid (ownsRow_boxed wr wr.heap.size 33 [] (Nat.le_refl _) (by simp))
                  clear hW hwl hwr HW
                  by_cases hcase : cap = k2 + 1
                  · subst hcase
                    go_wp2_with (first
                      | (at_builtin; refine wpList_append_vals rfl _ _ 69 rfl wr.heap.size 33 (Value.slice none 0 0) 24 Try.underlying69 info_ints rfl (by decide) _ _ [] ((rs.map (·.1)).take k2) rfl rfl HE.out (srcV_take (HS1.out.later (by go_grown)) (by simp; omega)) (fun y hy => HONE.out y (List.mem_of_mem_take hy)) (by simp; omega) (by simp) ?_; intro v5 w5 ho5 hg5 hl5; rw [List.nil_append] at ho5; (have hb5 : Below wr.heap.size wr w5 := Below.grown (show Below wr.heap.size wr (wr.alloc (.cells #[] 33)) from by go_grown) hg5 (by simp) (fun j hj => (HE.out.lt j hj).1)); have hz5 := hb5.size; have HO5 := Lib.hid ho5; clear ho5 hg5 hl5)
                      | (at_builtin; ((refine wpList_append_vals rfl _ _ 69 rfl wr.heap.size 33 (Value.slice none 0 0) 24 Try.underlying69 info_ints rfl (by decide) _ _ _ [.slice _ _ _, .slice _ _ _] rfl rfl (World.ownsRow.alloc HO5.out _) (ownsRow_src (ownsRow_boxed w5 wr.heap.size 33 [_, _] hz5 (by simp))) (fun y hy => by simp at hy; rcases hy with rfl | rfl <;> rfl) (by simp; omega) (by simp; omega) ?_); intro v6 w6 ho6 hg6 hl6; (have hb6 : Below wr.heap.size wr w6 := Below.grown (hb5.alloc hz5 _) hg6 (by simp; omega) (fun j hj => (HO5.out.lt j hj).1)); have hz6 := hb6.size; have HO6 := Lib.hid ho6; clear ho6 hg6 hl6))
                      | (at_builtin; ((refine wpList_append_vals rfl _ _ 69 rfl wr.heap.size 33 (Value.slice none 0 0) 24 Try.underlying69 info_ints rfl (by decide) _ _ _ ((rs.map (·.1)).drop (k2 + 1)) rfl rfl HO6.out (srcV_drop_at (k := k2 + 1) (HS1.out.later hb6) (by simp; omega) (by simp; try omega) (by first | exact .inl rfl | (right; simp; omega))) (fun y hy => HONE.out y (List.mem_of_mem_drop hy)) (by simp; omega) (by omega) ?_); intro v7 w7 ho7 hg7 hl7; (have hb7 : Below wr.heap.size wr w7 := hb6.grown hg7 hz6 (fun j hj => (HO6.out.lt j hj).1)); have hz7 := hb7.size; have HO7 := Lib.hid ho7; clear ho7 hg7 hl7)))
                    go_roundw
                    case rel =>
                      refine ⟨k + 1, by omega, by go_num, Lib.hid ⟨_, ⟨?_, ?_⟩, (regs_step (p := .slice ap ((pts.filter (inS (x, y))).length) cp) (q := .slice aq ((pts.filter (outS (x, y))).length) cq) HRS.out hlt HXY.out HNUM.out HFR.out (by rw [HRR.out]) HLEN.out H60.out).1, (regs_step (p := .slice ap ((pts.filter (inS (x, y))).length) cp) (q := .slice aq ((pts.filter (outS (x, y))).length) cq) HRS.out hlt HXY.out HNUM.out HFR.out (by rw [HRR.out]) HLEN.out H60.out).2.1, (regs_step (p := .slice ap ((pts.filter (inS (x, y))).length) cp) (q := .slice aq ((pts.filter (outS (x, y))).length) cq) HRS.out hlt HXY.out HNUM.out HFR.out (by rw [HRR.out]) HLEN.out H60.out).2.2⟩, hB.trans ((hb23.trans (hb7.mono (by have := hb23.size; omega))).mono hz)⟩
                      · have h9 := World.ownsRow.mono HO7.out (show w.heap.size ≤ wr.heap.size by have := hb23.size; omega)
                        simpa [List.map_append, List.map_take, List.map_drop] using h9
                      · exact (HO.out.rows.later hB2 (Nat.le_refl _)).put k2 (hB3.trans (hb7.mono (by omega))) (by omega) (by omega) (HT.out.one.later hb7) (HT.out.two.later hb7) HT.out.apart
                    case measure => simp [intOf]; omega
                  · skip
                    go_wp2_with (first
                      | (at_builtin; refine wpList_append_vals rfl _ _ 69 rfl wr.heap.size 33 (Value.slice none 0 0) 24 Try.underlying69 info_ints rfl (by decide) _ _ [] ((rs.map (·.1)).take k2) rfl rfl HE.out (srcV_take (HS1.out.later (by go_grown)) (by simp; omega)) (fun y hy => HONE.out y (List.mem_of_mem_take hy)) (by simp; omega) (by simp) ?_; intro v5 w5 ho5 hg5 hl5; rw [List.nil_append] at ho5; (have hb5 : Below wr.heap.size wr w5 := Below.grown (show Below wr.heap.size wr (wr.alloc (.cells #[] 33)) from by go_grown) hg5 (by simp) (fun j hj => (HE.out.lt j hj).1)); have hz5 := hb5.size; have HO5 := Lib.hid ho5; clear ho5 hg5 hl5)
                      | (at_builtin; ((refine wpList_append_vals rfl _ _ 69 rfl wr.heap.size 33 (Value.slice none 0 0) 24 Try.underlying69 info_ints rfl (by decide) _ _ _ [.slice _ _ _, .slice _ _ _] rfl rfl (World.ownsRow.alloc HO5.out _) (ownsRow_src (ownsRow_boxed w5 wr.heap.size 33 [_, _] hz5 (by simp))) (fun y hy => by simp at hy; rcases hy with rfl | rfl <;> rfl) (by simp; omega) (by simp; omega) ?_); intro v6 w6 ho6 hg6 hl6; (have hb6 : Below wr.heap.size wr w6 := Below.grown (hb5.alloc hz5 _) hg6 (by simp; omega) (fun j hj => (HO5.out.lt j hj).1)); have hz6 := hb6.size; have HO6 := Lib.hid ho6; clear ho6 hg6 hl6))
                      | (at_builtin; ((refine wpList_append_vals rfl _ _ 69 rfl wr.heap.size 33 (Value.slice none 0 0) 24 Try.underlying69 info_ints rfl (by decide) _ _ _ ((rs.map (·.1)).drop (k2 + 1)) rfl rfl HO6.out (srcV_drop_at (k := k2 + 1) (HS1.out.later hb6) (by simp; omega) (by simp; try omega) (by first | exact .inl rfl | (right; simp; omega))) (fun y hy => HONE.out y (List.mem_of_mem_drop hy)) (by simp; omega) (by omega) ?_); intro v7 w7 ho7 hg7 hl7; (have hb7 : Below wr.heap.size wr w7 := hb6.grown hg7 hz6 (fun j hj => (HO6.out.lt j hj).1)); have hz7 := hb7.size; have HO7 := Lib.hid ho7; clear ho7 hg7 hl7)))
                    go_roundw
                    case rel =>
                      refine ⟨k + 1, by omega, by go_num, Lib.hid ⟨_, ⟨?_, ?_⟩, (regs_step (p := .slice ap ((pts.filter (inS (x, y))).length) cp) (q := .slice aq ((pts.filter (outS (x, y))).length) cq) HRS.out hlt HXY.out HNUM.out HFR.out (by rw [HRR.out]) HLEN.out H60.out).1, (regs_step (p := .slice ap ((pts.filter (inS (x, y))).length) cp) (q := .slice aq ((pts.filter (outS (x, y))).length) cq) HRS.out hlt HXY.out HNUM.out HFR.out (by rw [HRR.out]) HLEN.out H60.out).2.1, (regs_step (p := .slice ap ((pts.filter (inS (x, y))).length) cp) (q := .slice aq ((pts.filter (outS (x, y))).length) cq) HRS.out hlt HXY.out HNUM.out HFR.out (by rw [HRR.out]) HLEN.out H60.out).2.2⟩, hB.trans ((hb23.trans (hb7.mono (by have := hb23.size; omega))).mono hz)⟩
                      · have h9 := World.ownsRow.mono HO7.out (show w.heap.size ≤ wr.heap.size by have := hb23.size; omega)
                        simpa [List.map_append, List.map_take, List.map_drop] using h9
                      · exact (HO.out.rows.later hB2 (Nat.le_refl _)).put k2 (hB3.trans (hb7.mono (by omega))) (by omega) (by omega) (HT.out.one.later hb7) (HT.out.two.later hb7) HT.out.apart
                    case measure => simp [intOf]; omega
            · have hno := HBF.out k2 (by omega) (by omega)
              rw [map_getD _ rs k2 ((Value.slice none 0 0), []) _ hq2, HRR.out] at hno
              unfold bothR at hno
              simp only at hno
              rw [HTX.out, HTY.out] at hno
              cases tx with
              | false =>
                clear hno
                go_wp2_with (go_at_call 52; (first | (with_reducible refine (has_any _ pts x _ _ _ _ HROW.out (by omega) HTX.out).mono ?_) | (with_reducible refine (has_any _ pts y _ _ _ _ HROW.out (by omega) HTY.out).mono ?_)); rintro e w1 ⟨rfl, rfl⟩)
                go_roundw
                case rel => exact ⟨k2 + 1, by omega, by go_num, rfl, hB2, hz2, b0, b1⟩
                case measure => simp [intOf]; omega
              | true =>
                obtain rfl : ty = false := by simpa using hno
                clear hno
                go_wp2_with (go_at_call 52; (first | (with_reducible refine (has_any _ pts x _ _ _ _ HROW.out (by omega) HTX.out).mono ?_) | (with_reducible refine (has_any _ pts y _ _ _ _ HROW.out (by omega) HTY.out).mono ?_)); rintro e w1 ⟨rfl, rfl⟩)
                go_roundw
                case rel => exact ⟨k2 + 1, by omega, by go_num, rfl, hB2, hz2, b0, b1⟩
                case measure => simp [intOf]; omega
        · obtain rfl : k = xs.length := by omega
          have hrsx := HRS.out
          rw [List.take_length] at hrsx
          have HRX := Lib.hid hrsx
          clear hrsx
          go_wp2
          go_loopw [17, 108] (fun v i wr => ∃ m : Nat, m ≤ rs.length ∧ i = .int .i64 m ∧ Hid (∃ os : List (Value × List Int), wr.ownsRow wo.heap.size 33 1 v (os.map (·.1)).length (os.map (·.1)) ∧ os.Perm (rs.take m) ∧ SortedL (os.map (·.2))) ∧ Below wo.heap.size wo wr) (fun _ i _ => rs.length - (intOf i).toNat)
          case atStart => exact ⟨0, by omega, rfl, Lib.hid ⟨[], World.ownsRow_nil _ _ _ _, by simp, List.Pairwise.nil⟩, Below.refl _ _⟩
          case round =>
            obtain ⟨m, hm, rfl, HM, hB4⟩ := hrel
            obtain ⟨wi, rfl⟩ : ∃ z, z = wr := ⟨wr, rfl⟩
            have hz4 := hB4.size
            obtain ⟨os, ho1, ho2, ho3⟩ := HM.out
            have hol := ho2.length_eq
            rw [List.length_take] at hol
            have hol2 : os.length ≤ rs.length := by omega
            obtain ⟨b0, bcap, bg, rfl, hb0, hbn, hbs, hbc, hbm, hbcl⟩ := OwnV.view ho1
            have HO1 := Lib.hid ho1
            have HO2 := Lib.hid ho2
            have HO3 := Lib.hid ho3
            have HB0 := Lib.hid hb0
            have HBN := Lib.hid hbn
            have HBS := Lib.hid hbs
            have HBCL := Lib.hid hbcl
            unfold maxLen at hbm
            clear HM ho1 ho2 ho3 hb0 hbn hbs hbcl
            by_cases hlt2 : m < rs.length
            · obtain rfl := HA0.out (by omega)
              have e0 := cellB hB4 (HCL.out m hlt2)
              obtain ⟨rv, pts, hr⟩ : ∃ rv pts, rs.getD m ((Value.slice none 0 0), []) = (rv, pts) := ⟨_, _, rfl⟩
              have hrow := HO.out.rows.each _ (getD_mem rs m ((Value.slice none 0 0), []) (by omega))
              rw [hr] at e0 hrow
              simp only at e0 hrow
              obtain ⟨a2, c2, hform⟩ := hrow.1.openedR
              subst hform
              have HROW := Lib.hid (hrow.keep (belowSame hB4 (Nat.le_refl _)))
              have HRR := Lib.hid hr
              clear hrow hr hol
              go_wp2
              go_loopw [20] (fun i wr => ∃ k : Nat, k ≤ os.length ∧ i = .int .i64 k ∧ Hid (∀ j, k ≤ j → j < os.length → lessL pts ((os.map (·.2)).getD j []) = true) ∧ Below wi.heap.size wi wr) (fun i _ => (intOf i).toNat)
              case atStart => exact ⟨os.length, Nat.le_refl _, rfl, Lib.hid (fun j h1 h2 => by omega), Below.refl _ _⟩
              case round =>
                obtain ⟨k, hk, rfl, HL, hB5⟩ := hrel
                have hz5' := hB5.size
                have HE := Lib.hid (ownsRow_boxed wr wr.heap.size 33 [] (Nat.le_refl _) (by simp))
                have HS1 := Lib.hid ((ownsRow_src HO1.out).later hB5)
                have HONE := Lib.hid (((HO.out.rows.sub (List.take_sublist m rs)).perm HO2.out.symm).cells)
                have HR1 := Lib.hid (HROW.out.keep (belowSame hB5 hz4))
                by_cases hk0 : 0 < k
                · obtain rfl := HB0.out (by omega)
                  obtain ⟨k, rfl⟩ : ∃ k', k = k' + 1 := ⟨k - 1, by omega⟩
                  have f0 := cellB hB5 (HBCL.out k (by omega))
                  obtain ⟨qv, qs, hq⟩ : ∃ qv qs, os.getD k ((Value.slice none 0 0), []) = (qv, qs) := ⟨_, _, rfl⟩
                  have hrow := ((HO.out.rows.sub (List.take_sublist m rs)).perm HO2.out.symm).each _ (getD_mem os k ((Value.slice none 0 0), []) (by omega))
                  rw [hq] at f0 hrow
                  simp only at f0 hrow
                  obtain ⟨a3, c3, hform⟩ := hrow.1.openedR
                  subst hform
                  have HR2 := Lib.hid ((hrow.keep (belowSame hB4 (Nat.le_refl _))).keep (belowSame hB5 hz4))
                  have HQ := Lib.hid hq
                  obtain ⟨t, ht⟩ : ∃ t, lessL pts qs = t := ⟨_, rfl⟩
                  clear hrow hq
                  cases t with
                  | true =>
                    have HLT := Lib.hid ht
                    have HL2 : Hid (∀ j, k ≤ j → j < os.length → lessL pts ((os.map (·.2)).getD j []) = true) := Lib.hid (fun j h1 h2 => by
                      rcases Nat.lt_or_ge k j with h | h
                      · exact HL.out j (by omega) h2
                      · obtain rfl : j = k := by omega
                        rw [map_getD _ os _ ((Value.slice none 0 0), []) _ h2, HQ.out]
                        exact HLT.out)
                    clear ht
                    go_wp2_with (go_at_call 100; (with_reducible refine (reLess_any _ _ pts qs _ _ _ _ _ _ _ HR1.out HR2.out HLT.out).mono ?_); rintro e wz ⟨rfl, rfl⟩)
                    go_roundw
                    case rel => exact ⟨k, by omega, by go_num, HL2, hB5⟩
                    case measure => simp [intOf]
                  | false =>
                    have HLT := Lib.hid ht
                    clear ht
                    by_cases hcase : bcap = k + 1
                    · subst hcase
                      go_wp2_with (first | (go_at_call 100; (with_reducible refine (reLess_any _ _ pts qs _ _ _ _ _ _ _ HR1.out HR2.out HLT.out).mono ?_); rintro e wz ⟨rfl, rfl⟩) | (at_builtin; refine wpList_append_vals rfl _ _ 69 rfl wr.heap.size 33 (Value.slice none 0 0) 24 Try.underlying69 info_ints rfl (by decide) _ _ [] ((os.map (·.1)).take (k + 1)) rfl rfl HE.out (srcV_take (HS1.out.later (by go_grown)) (by simp; omega)) (fun y hy => HONE.out y (List.mem_of_mem_take hy)) (by simp; try omega) (by simp) ?_; intro v5 w5 ho5 hg5 hl5; rw [List.nil_append] at ho5; (have hb5 : Below wr.heap.size wr w5 := Below.grown (show Below wr.heap.size wr (wr.alloc (.cells #[] 33)) from by go_grown) hg5 (by simp) (fun j hj => (HE.out.lt j hj).1)); have hz5 := hb5.size; have HO5 := Lib.hid ho5; clear ho5 hg5 hl5) | (at_builtin; refine wpList_append_vals rfl _ _ 69 rfl wr.heap.size 33 (Value.slice none 0 0) 24 Try.underlying69 info_ints rfl (by decide) _ _ _ [.slice _ _ _] rfl rfl (World.ownsRow.alloc HO5.out _) (ownsRow_src (ownsRow_boxed w5 wr.heap.size 33 [_] hz5 (by simp))) (fun y hy => by simp at hy; subst hy; rfl) (by simp; try omega) (by simp; omega) ?_; intro v6 w6 ho6 hg6 hl6; (have hb6 : Below wr.heap.size wr w6 := Below.grown (hb5.alloc hz5 _) hg6 (by simp; omega) (fun j hj => (HO5.out.lt j hj).1)); have hz6 := hb6.size; have HO6 := Lib.hid ho6; clear ho6 hg6 hl6) | (at_builtin; refine wpList_append_vals rfl _ _ 69 rfl wr.heap.size 33 (Value.slice none 0 0) 24 Try.underlying69 info_ints rfl (by decide) _ _ _ ((os.map (·.1)).drop (k + 1)) rfl rfl HO6.out (srcV_drop_at (k := k + 1) (HS1.out.later hb6) (by simp; omega) (by simp; try omega) (by first | exact .inl rfl | (right; simp; omega) | (left; omega))) (fun y hy => HONE.out y (List.mem_of_mem_drop hy)) (by simp; try omega) (by omega) ?_; intro v7 w7 ho7 hg7 hl7; (have hb7 : Below wr.heap.size wr w7 := hb6.grown hg7 hz6 (fun j hj => (HO6.out.lt j hj).1)); have hz7 := hb7.size; have HO7 := Lib.hid ho7; clear ho7 hg7 hl7))
                      go_roundw
                      case rel =>
                        refine ⟨m + 1, by omega, by go_num, Lib.hid ⟨os.take (k + 1) ++ [(.slice a2 pts.length c2, pts)] ++ os.drop (k + 1), ?_, insert_perm HO2.out hlt2 HRR.out, ?_⟩, hB4.trans ((hB5.trans (hb7.mono (by omega))).mono hz4)⟩
                        · have h9 := World.ownsRow.mono HO7.out (show wo.heap.size ≤ wr.heap.size by omega)
                          simpa [List.map_append, List.map_take, List.map_drop] using h9
                        · have h8 := insert_sorted (k := k + 1) HO3.out (by simp; omega) (by intro _; rw [Nat.add_sub_cancel, map_getD _ os _ ((Value.slice none 0 0), []) _ (by omega), HQ.out]; exact HLT.out) (fun j h1 h2 => HL.out j h1 (by simpa using h2))
                          simpa [List.map_append, List.map_take, List.map_drop] using h8
                      case measure => simp [intOf]; omega
                    · skip
                      go_wp2_with (first | (go_at_call 100; (with_reducible refine (reLess_any _ _ pts qs _ _ _ _ _ _ _ HR1.out HR2.out HLT.out).mono ?_); rintro e wz ⟨rfl, rfl⟩) | (at_builtin; refine wpList_append_vals rfl _ _ 69 rfl wr.heap.size 33 (Value.slice none 0 0) 24 Try.underlying69 info_ints rfl (by decide) _ _ [] ((os.map (·.1)).take (k + 1)) rfl rfl HE.out (srcV_take (HS1.out.later (by go_grown)) (by simp; omega)) (fun y hy => HONE.out y (List.mem_of_mem_take hy)) (by simp; try omega) (by simp) ?_; intro v5 w5 ho5 hg5 hl5; rw [List.nil_append] at ho5; (have hb5 : Below wr.heap.size wr w5 := Below.grown (show Below wr.heap.size wr (wr.alloc (.cells #[] 33)) from by go_grown) hg5 (by simp) (fun j hj => (HE.out.lt j hj).1)); have hz5 := hb5.size; have HO5 := Lib.hid ho5; clear ho5 hg5 hl5) | (at_builtin; refine wpList_append_vals rfl _ _ 69 rfl wr.heap.size 33 (Value.slice none 0 0) 24 Try.underlying69 info_ints rfl (by decide) _ _ _ [.slice _ _ _] rfl rfl (World.ownsRow.alloc HO5.out _) (ownsRow_src (ownsRow_boxed w5 wr.heap.size 33 [_] hz5 (by simp))) (fun y hy => by simp at hy; subst hy; rfl) (by simp; try omega) (by simp; omega) ?_; intro v6 w6 ho6 hg6 hl6; (have hb6 : Below wr.heap.size wr w6 := Below.grown (hb5.alloc hz5 _) hg6 (by simp; omega) (fun j hj => (HO5.out.lt j hj).1)); have hz6 := hb6.size; have HO6 := Lib.hid ho6; clear ho6 hg6 hl6) | (at_builtin; refine wpList_append_vals rfl _ _ 69 rfl wr.heap.size 33 (Value.slice none 0 0) 24 Try.underlying69 info_ints rfl (by decide) _ _ _ ((os.map (·.1)).drop (k + 1)) rfl rfl HO6.out (srcV_drop_at (k := k + 1) (HS1.out.later hb6) (by simp; omega) (by simp; try omega) (by first | exact .inl rfl | (right; simp; omega) | (left; omega))) (fun y hy => HONE.out y (List.mem_of_mem_drop hy)) (by simp; try omega) (by omega) ?_; intro v7 w7 ho7 hg7 hl7; (have hb7 : Below wr.heap.size wr w7 := hb6.grown hg7 hz6 (fun j hj => (HO6.out.lt j hj).1)); have hz7 := hb7.size; have HO7 := Lib.hid ho7; clear ho7 hg7 hl7))
                      go_roundw
                      case rel =>
                        refine ⟨m + 1, by omega, by go_num, Lib.hid ⟨os.take (k + 1) ++ [(.slice a2 pts.length c2, pts)] ++ os.drop (k + 1), ?_, insert_perm HO2.out hlt2 HRR.out, ?_⟩, hB4.trans ((hB5.trans (hb7.mono (by omega))).mono hz4)⟩
                        · have h9 := World.ownsRow.mono HO7.out (show wo.heap.size ≤ wr.heap.size by omega)
                          simpa [List.map_append, List.map_take, List.map_drop] using h9
                        · have h8 := insert_sorted (k := k + 1) HO3.out (by simp; omega) (by intro _; rw [Nat.add_sub_cancel, map_getD _ os _ ((Value.slice none 0 0), []) _ (by omega), HQ.out]; exact HLT.out) (fun j h1 h2 => HL.out j h1 (by simpa using h2))
                          simpa [List.map_append, List.map_take, List.map_drop] using h8
                      case measure => simp [intOf]; omega
                · obtain rfl : k = 0 := by omega
                  cases b0 with
                  | none =>
                    obtain rfl := HBN.out rfl
                    obtain rfl : os = [] := List.eq_nil_of_length_eq_zero (by omega)
                    clear HS1
                    go_wp2_with (first | (go_at_call 100; (with_reducible refine (reLess_any _ _ pts qs _ _ _ _ _ _ _ HR1.out HR2.out HLT.out).mono ?_); rintro e wz ⟨rfl, rfl⟩) | (at_builtin; refine wpList_append_vals rfl _ _ 69 rfl wr.heap.size 33 (Value.slice none 0 0) 24 Try.underlying69 info_ints rfl (by decide) _ _ [] [] rfl rfl HE.out (.inl ⟨rfl, rfl⟩) (fun y hy => by simp at hy) (by simp; try omega) (by simp) ?_; intro v5 w5 ho5 hg5 hl5; rw [List.nil_append] at ho5; (have hb5 : Below wr.heap.size wr w5 := Below.grown (show Below wr.heap.size wr (wr.alloc (.cells #[] 33)) from by go_grown) hg5 (by simp) (fun j hj => (HE.out.lt j hj).1)); have hz5 := hb5.size; have HO5 := Lib.hid ho5; clear ho5 hg5 hl5) | (at_builtin; refine wpList_append_vals rfl _ _ 69 rfl wr.heap.size 33 (Value.slice none 0 0) 24 Try.underlying69 info_ints rfl (by decide) _ _ _ [.slice _ _ _] rfl rfl (World.ownsRow.alloc HO5.out _) (ownsRow_src (ownsRow_boxed w5 wr.heap.size 33 [_] hz5 (by simp))) (fun y hy => by simp at hy; subst hy; rfl) (by simp; try omega) (by simp; omega) ?_; intro v6 w6 ho6 hg6 hl6; (have hb6 : Below wr.heap.size wr w6 := Below.grown (hb5.alloc hz5 _) hg6 (by simp; omega) (fun j hj => (HO5.out.lt j hj).1)); have hz6 := hb6.size; have HO6 := Lib.hid ho6; clear ho6 hg6 hl6) | (at_builtin; refine wpList_append_vals rfl _ _ 69 rfl wr.heap.size 33 (Value.slice none 0 0) 24 Try.underlying69 info_ints rfl (by decide) _ _ _ [] rfl rfl HO6.out (.inl ⟨rfl, rfl⟩) (fun y hy => by simp at hy) (by simp; try omega) (by omega) ?_; intro v7 w7 ho7 hg7 hl7; (have hb7 : Below wr.heap.size wr w7 := hb6.grown hg7 hz6 (fun j hj => (HO6.out.lt j hj).1)); have hz7 := hb7.size; have HO7 := Lib.hid ho7; clear ho7 hg7 hl7))
                    go_roundw
                    case rel =>
                      refine ⟨m + 1, by omega, by go_num, Lib.hid ⟨[(.slice a2 pts.length c2, pts)], ?_, insert_perm (k := 0) HO2.out hlt2 HRR.out, by simp [SortedL]⟩, hB4.trans ((hB5.trans (hb7.mono (by omega))).mono hz4)⟩
                      · have h9 := World.ownsRow.mono HO7.out (show wo.heap.size ≤ wr.heap.size by omega)
                        simpa [List.map_append, List.map_take, List.map_drop] using h9
                    case measure => simp [intOf]; omega
                  | some b0 =>
                    obtain rfl := HBS.out _ rfl
                    go_wp2_with (first | (go_at_call 100; (with_reducible refine (reLess_any _ _ pts qs _ _ _ _ _ _ _ HR1.out HR2.out HLT.out).mono ?_); rintro e wz ⟨rfl, rfl⟩) | (at_builtin; refine wpList_append_vals rfl _ _ 69 rfl wr.heap.size 33 (Value.slice none 0 0) 24 Try.underlying69 info_ints rfl (by decide) _ _ [] ((os.map (·.1)).take (0)) rfl rfl HE.out (srcV_take (HS1.out.later (by go_grown)) (by simp; try omega)) (fun y hy => HONE.out y (List.mem_of_mem_take hy)) (by simp; try omega) (by simp) ?_; intro v5 w5 ho5 hg5 hl5; rw [List.nil_append] at ho5; (have hb5 : Below wr.heap.size wr w5 := Below.grown (show Below wr.heap.size wr (wr.alloc (.cells #[] 33)) from by go_grown) hg5 (by simp) (fun j hj => (HE.out.lt j hj).1)); have hz5 := hb5.size; have HO5 := Lib.hid ho5; clear ho5 hg5 hl5) | (at_builtin; refine wpList_append_vals rfl _ _ 69 rfl wr.heap.size 33 (Value.slice none 0 0) 24 Try.underlying69 info_ints rfl (by decide) _ _ _ [.slice _ _ _] rfl rfl (World.ownsRow.alloc HO5.out _) (ownsRow_src (ownsRow_boxed w5 wr.heap.size 33 [_] hz5 (by simp))) (fun y hy => by simp at hy; subst hy; rfl) (by simp; try omega) (by simp; try omega) ?_; intro v6 w6 ho6 hg6 hl6; (have hb6 : Below wr.heap.size wr w6 := Below.grown (hb5.alloc hz5 _) hg6 (by simp; try omega) (fun j hj => (HO5.out.lt j hj).1)); have hz6 := hb6.size; have HO6 := Lib.hid ho6; clear ho6 hg6 hl6) | (at_builtin; refine wpList_append_vals rfl _ _ 69 rfl wr.heap.size 33 (Value.slice none 0 0) 24 Try.underlying69 info_ints rfl (by decide) _ _ _ ((os.map (·.1)).drop (0)) rfl rfl HO6.out (srcV_drop_at (k := 0) (HS1.out.later hb6) (by simp; try omega) (by simp; try omega) (by first | exact .inl rfl | (right; simp; omega) | (left; omega))) (fun y hy => HONE.out y (List.mem_of_mem_drop hy)) (by simp; try omega) (by omega) ?_; intro v7 w7 ho7 hg7 hl7; (have hb7 : Below wr.heap.size wr w7 := hb6.grown hg7 hz6 (fun j hj => (HO6.out.lt j hj).1)); have hz7 := hb7.size; have HO7 := Lib.hid ho7; clear ho7 hg7 hl7))
                    go_roundw
                    case rel =>
                      refine ⟨m + 1, by omega, by go_num, Lib.hid ⟨os.take (0) ++ [(.slice a2 pts.length c2, pts)] ++ os.drop (0), ?_, insert_perm HO2.out hlt2 HRR.out, ?_⟩, hB4.trans ((hB5.trans (hb7.mono (by omega))).mono hz4)⟩
                      · have h9 := World.ownsRow.mono HO7.out (show wo.heap.size ≤ wr.heap.size by omega)
                        simpa [List.map_append, List.map_take, List.map_drop] using h9
                      · have h8 := insert_sorted (k := 0) HO3.out (by simp; try omega) (by intro h; omega) (fun j h1 h2 => HL.out j h1 (by simpa using h2))
                        simpa [List.map_append, List.map_take, List.map_drop] using h8
                    case measure => simp [intOf]; omega
            · obtain rfl : m = rs.length := by omega
              have hp := HO2.out
              rw [List.take_length] at hp
              have HP := Lib.hid hp
              clear hp hol
              go_wp2
              go_ret
              exact ⟨_, rfl, os, ⟨World.ownsRow.mono HO1.out hz, ((HO.out.rows.later hB4 (Nat.le_refl _)).widen (Nat.le_refl _) hz4).perm HP.out.symm⟩, by rw [← HRX.out]; exact HP.out.map _, HO3.out, hB.trans (hB4.mono hz)⟩
end Go.Proofs.Ytnldnjgnpdicnaa
