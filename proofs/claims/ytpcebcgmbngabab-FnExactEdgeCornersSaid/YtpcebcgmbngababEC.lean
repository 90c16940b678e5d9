/- The edge of threads: the next thread, the program. -/
import Derived.Test.YtpcebcgmbngababEB
namespace Go.Proofs.Ytpcebcgmbngabab
open Go.RowKit
set_option linter.unusedVariables false

/-- What lies in the box of the nearest meeting so far. -/
def BoxE (w : World) (g : Nat) (xs : List (Int × Int)) (k : Nat) (o : Option Nat) : Prop :=
  ∃ P Q : Nat, w.cell? ⟨g, 0, none⟩ = some (.int .i64 (P : Nat)) ∧ w.cell? ⟨g, 1, none⟩ = some (.int .i64 (Q : Nat)) ∧ w.frozen? ⟨g, 0, none⟩ = false ∧ w.frozen? ⟨g, 1, none⟩ = false ∧ ∀ j, o = some j → P = exA xs k j ∧ Q = exB xs k j

theorem BoxE.later {w w' : World} {g : Nat} {xs : List (Int × Int)} {k : Nat} {o : Option Nat} (h : BoxE w g xs k o) (hb : Below w.heap.size w w') (hg : g < w.heap.size) : BoxE w' g xs k o := by
  obtain ⟨P, Q, c0, c1, f0, f1, h⟩ := h
  exact ⟨P, Q, cellB hb c0, cellB hb c1, (hb.frozen (p := ⟨g, 0, none⟩) hg).trans f0, (hb.frozen (p := ⟨g, 1, none⟩) hg).trans f1, h⟩

theorem field_x (p q r s : Int) (w : World) : (Instr.field 91 (.agg #[.int .i64 p, .int .i64 q, .int .i64 r, .int .i64 s]) 0).run Try.prog w = .ok (.agg #[.int .i64 p, .int .i64 q]) w := by
  unfold Instr.field
  go_simp
  try rfl

theorem meetL_parts {a b c d ax bx ay cy : Int} {P Q : Nat} (hL : meetL a b c d = [ax, bx, ay, cy]) (hP : lowA (mxN a b c d) (mdN a b c d) = P) (hQ : lowB (mxN a b c d) (mdN a b c d) = Q) : ax = (P : Int) ∧ bx = (Q : Int) := by
  unfold meetL at hL
  rw [hP, hQ] at hL
  simp only [List.cons.injEq] at hL
  exact ⟨hL.1.symm, hL.2.1.symm⟩

theorem ex_le (a b c d : Int) (h1 : isT a b) (h2 : isT c d) (hac : a < c) (hdb : d < b) : lowA (mxN a b c d) (mdN a b c d) ≤ 1000000 ∧ lowB (mxN a b c d) (mdN a b c d) ≤ 10000 := by
  obtain ⟨X, Y, D, hX, hY, hD, _, _, _, _, _, hX2, _, _, hD2, _⟩ := meet_letters a b c d h1 h2 hac hdb
  rw [hX, hD]
  exact ⟨Nat.le_trans (Nat.div_le_self _ _) hX2, Nat.le_trans (Nat.div_le_self _ _) hD2⟩

theorem ex_bounds {xs : List (Int × Int)} (hg : goodT xs) {k i : Nat} (hk : k < xs.length) (hi : i < xs.length) (h : candE xs k i = true) : exA xs k i ≤ 1000000 ∧ exB xs k i ≤ 10000 := by
  unfold candE at h
  rw [Bool.and_eq_true, decide_eq_true_eq] at h
  have h2 := h.2
  unfold meetB at h2
  rw [decide_eq_true_eq] at h2
  exact ex_le _ _ _ _ (hg.at k hk) (hg.at i hi) h.1 (by omega)

theorem cmpI_le {x y : Nat} : (cmpI ((x : Nat) : Int) ((y : Nat) : Int) ≤ 0) ↔ x ≤ y := by
  unfold cmpI
  split
  · omega
  · split <;> omega

set_option maxHeartbeats 4000000 in
theorem nextOnEdge_any (u : Value) (xs : List (Int × Int)) (B T : Nat) (w : World) (h : PairsIn 82 w B T u xs) (hT : T ≤ w.heap.size) (k : Nat) (hg : goodT xs) (hk : k < xs.length) :
    Calls Try.prog 66 #[u, .int .i64 k] w fun e w' => e = .returned (.tuple #[.int .i64 ((nxtE xs k xs.length).getD 0 : Nat), .bool (nxtE xs k xs.length).isSome]) ∧ Below w.heap.size w w' := by
  have HU := Lib.hid h
  have HG := Lib.hid hg
  have hn : xs.length ≤ 30 := hg.1.2
  obtain ⟨g1, c1, rfl⟩ := list_form h (by omega)
  have h0 := nxt_start hg k hk (k + 1) (Nat.le_refl _)
  have H0 := Lib.hid h0
  obtain ⟨a, b, hab⟩ : ∃ a b, xs.getD k (0, 0) = (a, b) := ⟨_, _, rfl⟩
  have hTk := hg.at k hk
  rw [hab] at hTk
  have HAB := Lib.hid hab
  have HTK := Lib.hid hTk
  have hwk : IntKind.i64.wrap ((k : Int) + 1) = ((k + 1 : Nat) : Int) := by rw [IntKind.wrap_i64]; omega
  clear h hg h0 hab hTk
  go_enter Try.func66, Try.ntmps66
  go_wp2
  go_loopw [6, 7, 9] (fun n f i wr => ∃ m : Nat, k + 1 ≤ m ∧ m ≤ xs.length ∧ i = .int .i64 m ∧ n = .int .i64 ((nxtE xs k m).getD 0 : Nat) ∧ f = .bool (nxtE xs k m).isSome ∧ Hid (BoxE wr w.heap.size xs k (nxtE xs k m)) ∧ Below w.heap.size w wr ∧ w.heap.size < wr.heap.size) (fun _ _ i _ => xs.length - (intOf i).toNat)
  case atStart => exact ⟨k + 1, by omega, by omega, by go_num, by rw [H0.out]; rfl, by rw [H0.out]; rfl, Lib.hid ⟨0, 0, by go_simp, by go_simp, by go_simp, by go_simp, fun j hj => by rw [H0.out] at hj; cases hj⟩, by go_grown, by simp⟩
  case round =>
    obtain ⟨m, hm1, hm2, rfl, rfl, rfl, HBX, hB, hz⟩ := hrel
    by_cases hlt : m < xs.length
    · have HUr := Lib.hid (HU.out.keep (belowSame hB hT))
      obtain ⟨e0, e1⟩ := elem_cells HUr.out k hk a b HAB.out
      obtain ⟨c, d, hcd⟩ : ∃ a b, xs.getD m (0, 0) = (a, b) := ⟨_, _, rfl⟩
      obtain ⟨f0, f1⟩ := elem_cells HUr.out m hlt c d hcd
      have hTm := HG.out.at m hlt
      rw [hcd] at hTm
      have hcm := cand_meet HG.out (show k < m by omega) hlt
      rw [HAB.out, hcd] at hcm
      simp only at hcm
      have k1 : 0 ≤ (k : Int) := by omega
      have k2 : (k : Int) < (xs.length : Int) := by omega
      have m1 : 0 ≤ (m : Int) := by omega
      have m2 : (m : Int) < (xs.length : Int) := by omega
      have HCD := Lib.hid hcd
      have HTM := Lib.hid hTm
      have hwm : IntKind.i64.wrap ((m : Int) + 1) = ((m + 1 : Nat) : Int) := by rw [IntKind.wrap_i64]; omega
      have hnx : nxtE xs k (m + 1) = if candE xs k m then (match nxtE xs k m with | none => some m | some j => if exA xs k m * exB xs k j ≤ exA xs k j * exB xs k m then some m else some j) else nxtE xs k m := rfl
      obtain ⟨o, ho⟩ : ∃ o, nxtE xs k m = o := ⟨_, rfl⟩
      rw [ho] at HBX hnx ⊢
      have HO := Lib.hid ho
      clear hcd hTm ho
      cases hmt : meetB a b c d with
      | false =>
        rw [hcm, hmt] at hnx
        simp only [Bool.false_eq_true, if_false] at hnx
        have HNX := Lib.hid hnx
        have HMT := Lib.hid hmt
        clear hnx hcm hmt
        go_wp2
        go_region_held3 (fun w' => w'.cell? ⟨g1, k * 2, none⟩ = some (.int .i64 a) ∧ w'.cell? ⟨g1, k * 2 + 1, none⟩ = some (.int .i64 b) ∧ w'.cell? ⟨g1, m * 2, none⟩ = some (.int .i64 c) ∧ w'.cell? ⟨g1, m * 2 + 1, none⟩ = some (.int .i64 d)) (go_keep)
          (first | (go_at_call 93; (with_reducible refine (threadsMeet_any a b c d _).mono ?_); rintro e w1 ⟨rfl, hb⟩; rw [HMT.out]; have d0 := cellB hb e0; have d1 := cellB hb e1; have d2 := cellB hb f0; have d3 := cellB hb f1; have hb1 : Below wr.heap.size wr w1 := Below.trans (by go_grown) (hb.mono (by simp)); clear hb))
        go_wp2
        have hz1 := hb1.size
        go_roundw
        case rel => exact ⟨m + 1, by omega, by omega, by go_num, by rw [HNX.out], by rw [HNX.out], Lib.hid (by rw [HNX.out]; exact HBX.out.later (by first | exact hb1 | exact bdn hb1 _) hz), by first | exact hB.trans (hb1.mono (by omega)) | exact bdn (hB.trans (hb1.mono (by omega))) _, by first | omega | (simp; omega)⟩
        case measure => simp [intOf]; omega
      | true =>
        rw [hcm, hmt] at hnx
        simp only [if_true] at hnx
        have HMM := Lib.hid (fun W => meetingOf_e a b c d W HTK.out HTM.out hmt)
        have HNX := Lib.hid hnx
        have HMT := Lib.hid hmt
        clear hnx hcm hmt
        go_wp2
        go_region_held3 (fun w' => w'.cell? ⟨g1, k * 2, none⟩ = some (.int .i64 a) ∧ w'.cell? ⟨g1, k * 2 + 1, none⟩ = some (.int .i64 b) ∧ w'.cell? ⟨g1, m * 2, none⟩ = some (.int .i64 c) ∧ w'.cell? ⟨g1, m * 2 + 1, none⟩ = some (.int .i64 d)) (go_keep)
          (first | (go_at_call 93; (with_reducible refine (threadsMeet_any a b c d _).mono ?_); rintro e w1 ⟨rfl, hb⟩; rw [HMT.out]; have d0 := cellB hb e0; have d1 := cellB hb e1; have d2 := cellB hb f0; have d3 := cellB hb f1; have hb1 : Below wr.heap.size wr w1 := Below.trans (by go_grown) (hb.mono (by simp)); clear hb))
        go_wp2
        have hz1 := hb1.size
        have HBX1 := Lib.hid (HBX.out.later hb1 hz)
        have hB1 := hB.trans (hb1.mono (by omega))
        obtain ⟨P, hP⟩ : ∃ P, exA xs k m = P := ⟨_, rfl⟩
        obtain ⟨Q, hQ⟩ : ∃ Q, exB xs k m = Q := ⟨_, rfl⟩
        have hcc : candE xs k m = true := by rw [cand_meet HG.out (show k < m by omega) hlt, HAB.out, HCD.out]; exact HMT.out
        have hpq := ex_bounds HG.out hk hlt hcc
        rw [hP, hQ] at hpq
        have HPE := Lib.hid (show lowA (mxN a b c d) (mdN a b c d) = P by rw [← hP]; unfold exA; rw [HAB.out, HCD.out])
        have HQE := Lib.hid (show lowB (mxN a b c d) (mdN a b c d) = Q by rw [← hQ]; unfold exB; rw [HAB.out, HCD.out])
        have HPX := Lib.hid hP
        have HQX := Lib.hid hQ
        obtain ⟨hp1, hq1⟩ := hpq
        obtain ⟨q0, q1, q2, q3⟩ : w1.cell? ⟨g1, k * 2, none⟩ = some (.int .i64 a) ∧ w1.cell? ⟨g1, k * 2 + 1, none⟩ = some (.int .i64 b) ∧ w1.cell? ⟨g1, m * 2, none⟩ = some (.int .i64 c) ∧ w1.cell? ⟨g1, m * 2 + 1, none⟩ = some (.int .i64 d) := ⟨d0, d1, d2, d3⟩
        have K4 := Lib.hid (show ∀ w', Below w1.heap.size w1 w' → Below w1.heap.size w1 w' ∧ w'.cell? ⟨g1, k * 2, none⟩ = some (.int .i64 a) ∧ w'.cell? ⟨g1, k * 2 + 1, none⟩ = some (.int .i64 b) ∧ w'.cell? ⟨g1, m * 2, none⟩ = some (.int .i64 c) ∧ w'.cell? ⟨g1, m * 2 + 1, none⟩ = some (.int .i64 d) from fun w' hb => ⟨hb, cellB hb q0, cellB hb q1, cellB hb q2, cellB hb q3⟩)
        clear e0 e1 f0 f1 hP hQ hcc
        refine wp_region_held_drew (S := fun w' => Below w1.heap.size w1 w' ∧ w'.cell? ⟨g1, k * 2, none⟩ = some (.int .i64 a) ∧ w'.cell? ⟨g1, k * 2 + 1, none⟩ = some (.int .i64 b) ∧ w'.cell? ⟨g1, m * 2, none⟩ = some (.int .i64 c) ∧ w'.cell? ⟨g1, m * 2 + 1, none⟩ = some (.int .i64 d)) (by kernel_rfl) (by (try dsimp only); exact K4.out _ (by go_grown)) (fun hHeld => ?_)
        refine wpAnyH_take (i := 0) (v := ?v25) rfl (by kernel_rfl) (by kernel_rfl) (by kernel_rfl) (fun _ _ _ h => h) (Or.inl ⟨by rfl, ?hy25⟩) (by assumption) ?rest25
        case hy25 => (intro w hSw; (try dsimp only at hSw); go_simp; (try with_reducible rfl))
        simp only [Act.put, List.getElem_toArray, List.getElem_cons_zero, List.setIfInBounds_toArray, List.set_cons_zero, List.set_cons_succ]
        refine wpAnyH_take (i := 1) (v := ?v26) rfl (by kernel_rfl) (by kernel_rfl) (by kernel_rfl) (fun _ _ _ h => h) (Or.inl ⟨by rfl, ?hy26⟩) (by assumption) ?rest26
        case hy26 => (intro w hSw; (try dsimp only at hSw); go_simp; (try with_reducible rfl))
        simp only [Act.put, List.getElem_toArray, List.getElem_cons_zero, List.getElem_cons_succ, List.setIfInBounds_toArray, List.set_cons_zero, List.set_cons_succ]
        refine wpAnyH_take (i := 2) (v := ?v27) rfl (by kernel_rfl) (by kernel_rfl) (by kernel_rfl) (fun _ _ _ h => h) (Or.inl ⟨by rfl, ?hy27⟩) (by assumption) ?rest27
        case hy27 => (intro w hSw; (try dsimp only at hSw); go_simp; (try with_reducible rfl))
        simp only [Act.put, List.getElem_toArray, List.getElem_cons_zero, List.getElem_cons_succ, List.setIfInBounds_toArray, List.set_cons_zero, List.set_cons_succ]
        refine wpAnyH_take (i := 3) (v := ?v28) rfl (by kernel_rfl) (by kernel_rfl) (by kernel_rfl) (fun _ _ _ h => h) (Or.inl ⟨by rfl, ?hy28⟩) (by assumption) ?rest28
        case hy28 => (intro w hSw; (try dsimp only at hSw); go_simp; (try with_reducible rfl))
        simp only [Act.put, List.getElem_toArray, List.getElem_cons_zero, List.getElem_cons_succ, List.setIfInBounds_toArray, List.set_cons_zero, List.set_cons_succ]
        refine wpAnyH_take (i := 4) (v := ?v29) rfl (by kernel_rfl) (by kernel_rfl) (by kernel_rfl) (fun _ _ _ h => h) (Or.inl ⟨by rfl, ?hy29⟩) (by assumption) ?rest29
        case hy29 => (intro w hSw; (try dsimp only at hSw); go_simp; (try with_reducible rfl))
        simp only [Act.put, List.getElem_toArray, List.getElem_cons_zero, List.getElem_cons_succ, List.setIfInBounds_toArray, List.set_cons_zero, List.set_cons_succ]
        refine wpAnyH_take (i := 5) (v := ?v30) rfl (by kernel_rfl) (by kernel_rfl) (by kernel_rfl) (fun _ _ _ h => h) (Or.inl ⟨by rfl, ?hy30⟩) (by assumption) ?rest30
        case hy30 => (intro w hSw; (try dsimp only at hSw); go_simp; (try with_reducible rfl))
        simp only [Act.put, List.getElem_toArray, List.getElem_cons_zero, List.getElem_cons_succ, List.setIfInBounds_toArray, List.set_cons_zero, List.set_cons_succ]
        refine wpAnyH_take (i := 6) (v := ?v31) rfl (by kernel_rfl) (by kernel_rfl) (by kernel_rfl) (fun _ _ _ h => h) (Or.inl ⟨by rfl, ?hy31⟩) (by assumption) ?rest31
        case hy31 => (intro w hSw; (try dsimp only at hSw); go_simp; (try with_reducible rfl))
        simp only [Act.put, List.getElem_toArray, List.getElem_cons_zero, List.getElem_cons_succ, List.setIfInBounds_toArray, List.set_cons_zero, List.set_cons_succ]
        refine wpAnyH_take (i := 7) (v := ?v32) rfl (by kernel_rfl) (by kernel_rfl) (by kernel_rfl) (fun _ _ _ h => h) (Or.inl ⟨by rfl, ?hy32⟩) (by assumption) ?rest32
        case hy32 => (intro w hSw; (try dsimp only at hSw); go_simp; (try with_reducible rfl))
        simp only [Act.put, List.getElem_toArray, List.getElem_cons_zero, List.getElem_cons_succ, List.setIfInBounds_toArray, List.set_cons_zero, List.set_cons_succ]
        refine wpAnyH_ready (rs := [8, 10]) (by kernel_rfl) (by simp) ?_
        refine AllReadyH.cons rfl (fun K hK => ?_) (AllReadyH.cons rfl (fun K hK => ?_) AllReadyH.nil)
        · skip
          simp only [List.getElem_toArray, List.getElem_cons_zero, List.getElem_cons_succ]
          go_simp
          go_at_call 68; (with_reducible refine (HMM.out _).mono ?_); rintro e w2 ⟨⟨ax, bx, ay, cy, hL, rfl⟩, hb2⟩; obtain ⟨rfl, rfl⟩ := meetL_parts hL HPE.out HQE.out; clear hL; have hb12 := hHeld.1.trans (hb2.mono hHeld.1.size); have hz2 := hb12.size
          dsimp only
          refine hK.out _ _ (by (try dsimp only); exact K4.out _ (hHeld.1.trans (hb2.mono hHeld.1.size))) (fun hHeld => ?_)
          clear hK K
          refine wpAnyH_take (i := 9) (v := ?v33) rfl (by kernel_rfl) (by kernel_rfl) (by kernel_rfl) (fun _ _ _ h => h) (Or.inl ⟨by rfl, ?hy33⟩) (by assumption) ?rest33
          case hy33 => (intro w hSw; (try dsimp only at hSw); go_simp; rw [field_x]; rfl)
          simp only [Act.put, List.getElem_toArray, List.getElem_cons_zero, List.getElem_cons_succ, List.setIfInBounds_toArray, List.set_cons_zero, List.set_cons_succ]
          refine wpAnyH_ready (rs := [10]) (by kernel_rfl) (by simp) ?_
          refine AllReadyH.cons rfl (fun K hK => ?_) AllReadyH.nil
          simp only [List.getElem_toArray, List.getElem_cons_zero, List.getElem_cons_succ]
          go_simp
          refine hK.out _ _ (by (try dsimp only); exact K4.out _ (by go_grown)) (fun hHeld => ?_)
          clear hK K
          refine wpAnyH_ready (rs := [11]) (by kernel_rfl) (by simp) ?_
          refine AllReadyH.cons rfl (fun K hK => ?_) AllReadyH.nil
          simp only [List.getElem_toArray, List.getElem_cons_zero, List.getElem_cons_succ]
          go_simp
          refine hK.out _ _ (by (try dsimp only); exact K4.out _ (by go_grown)) (fun hHeld => ?_)
          clear hK K
          refine wpAnyH_done (by kernel_rfl) ?_ _
          have v0 : (w2.alloc (.cells #[.int .i64 (P : Nat), .int .i64 (Q : Nat)] 89)).cell? ⟨w2.heap.size, 0, none⟩ = some (.int .i64 (P : Nat)) := by go_simp
          have v1 : (w2.alloc (.cells #[.int .i64 (P : Nat), .int .i64 (Q : Nat)] 89)).cell? ⟨w2.heap.size, 1, none⟩ = some (.int .i64 (Q : Nat)) := by go_simp
          have HXW := Lib.hid (HBX1.out.later hHeld.1 (by omega))
          have HBW := Lib.hid (hB1.trans (hHeld.1.mono (by omega)))
          have hzW := hHeld.1.size
          obtain ⟨W, hW⟩ : ∃ W, W = (w2.alloc (.cells #[.int .i64 (P : Nat), .int .i64 (Q : Nat)] 89)) := ⟨_, rfl⟩
          rw [← hW] at v0 v1 HXW HBW hzW ⊢
          have hWgh : w2.heap.size < W.heap.size := by rw [hW]; simp; try omega
          have hgh : w.heap.size < w2.heap.size := by omega
          obtain ⟨gh, hgg⟩ : ∃ g, g = w2.heap.size := ⟨_, rfl⟩
          rw [← hgg] at v0 v1 hWgh hgh ⊢
          clear hW hHeld hgg
          obtain ⟨P0, Q0, b0, b1, z0, z1, hpj⟩ := HXW.out
          cases o with
          | none =>
            have hnx := HNX.out
            simp only at hnx
            have HN := Lib.hid hnx
            clear hnx hpj
            go_wp2
            have i1 : ¬ w.heap.size = gh := by omega
            have i2 : ¬ gh = w.heap.size := by omega
            go_region_held3 (fun w' => w'.cell? ⟨gh, 0, none⟩ = some (.int .i64 (P : Nat)) ∧ w'.cell? ⟨gh, 1, none⟩ = some (.int .i64 (Q : Nat))) (go_keep) (fail)
            go_wp2
            go_roundw
            case rel => exact ⟨m + 1, by omega, by omega, by go_num, by rw [HN.out]; rfl, by rw [HN.out]; rfl, Lib.hid ⟨P, Q, by go_simp, by go_simp, by go_simp, by go_simp, fun j hj => by rw [HN.out] at hj; cases hj; exact ⟨HPX.out.symm, HQX.out.symm⟩⟩, HBW.out.trans (by go_grown), by simp; omega⟩
            case measure => simp [intOf]; omega
          | some j =>
            have hnx := HNX.out
            simp only at hnx
            have hj := nxt_some m j HO.out
            have hbj := ex_bounds HG.out hk (show j < xs.length by omega) hj.2
            obtain ⟨hP0, hQ0⟩ := hpj j rfl
            rw [HPX.out, HQX.out, ← hP0, ← hQ0] at hnx
            rw [← hP0, ← hQ0] at hbj
            obtain ⟨l1, l2⟩ := hbj
            obtain ⟨cv, hcv⟩ : ∃ c, cmpI ((P * Q0 : Nat) : Int) ((P0 * Q : Nat) : Int) = c := ⟨_, rfl⟩
            have HCV := Lib.hid hcv
            have hci := @cmpI_le (P * Q0) (P0 * Q)
            rw [hcv] at hci
            have HX0 := Lib.hid (show ∀ i, some j = some i → P0 = exA xs k i ∧ Q0 = exB xs k i from hpj)
            by_cases hle : P * Q0 ≤ P0 * Q
            · rw [if_pos hle] at hnx
              have hc0 := hci.2 hle
              have HN := Lib.hid hnx
              clear hnx hci hcv hP0 hQ0 hpj hle hj
              go_wp2_with (first | (go_at_call 94; (refine (compareFractions_any P Q P0 Q0 _ hp1 hq1 l1 l2).mono ?_); rintro e w5 ⟨rfl, hb5⟩; rw [HCV.out]; have t0 := cellB hb5 v0; have t1 := cellB hb5 v1; have t2 := cellB hb5 b0; have t3 := cellB hb5 b1; (have t4 := (hb5.frozen (p := ⟨w.heap.size, 0, none⟩) (by show w.heap.size < _; omega)).trans z0); (have t5 := (hb5.frozen (p := ⟨w.heap.size, 1, none⟩) (by show w.heap.size < _; omega)).trans z1); have hz5 := hb5.size; have HB5 := Lib.hid (HBW.out.trans (hb5.mono (by omega)))))
              have i1 : ¬ w.heap.size = gh := by omega
              have i2 : ¬ gh = w.heap.size := by omega
              go_region_held3 (fun w' => w'.cell? ⟨gh, 0, none⟩ = some (.int .i64 (P : Nat)) ∧ w'.cell? ⟨gh, 1, none⟩ = some (.int .i64 (Q : Nat))) (go_keep) (fail)
              go_wp2
              go_roundw
              case rel => exact ⟨m + 1, by omega, by omega, by go_num, by rw [HN.out]; rfl, by rw [HN.out]; rfl, Lib.hid ⟨P, Q, by go_simp, by go_simp, by go_simp, by go_simp, fun j hj => by rw [HN.out] at hj; cases hj; exact ⟨HPX.out.symm, HQX.out.symm⟩⟩, HB5.out.trans (by go_grown), by simp; omega⟩
              case measure => simp [intOf]; omega
            · rw [if_neg hle] at hnx
              have hc0 : ¬ cv ≤ 0 := fun h => hle (hci.1 h)
              have HN := Lib.hid hnx
              clear hnx hci hcv hP0 hQ0 hpj hle hj
              go_wp2_with (first | (go_at_call 94; (refine (compareFractions_any P Q P0 Q0 _ hp1 hq1 l1 l2).mono ?_); rintro e w5 ⟨rfl, hb5⟩; rw [HCV.out]; have hz5 := hb5.size; have HB5 := Lib.hid (HBW.out.trans (hb5.mono (by omega))); have HX5 := Lib.hid (HXW.out.later hb5 (by omega))))
              go_roundw
              case rel => exact ⟨m + 1, by omega, by omega, by go_num, by rw [HN.out]; rfl, by rw [HN.out]; rfl, Lib.hid (by rw [HN.out]; exact HX5.out), HB5.out, by omega⟩
              case measure => simp [intOf]; omega
        · skip
          simp only [List.getElem_toArray, List.getElem_cons_zero, List.getElem_cons_succ]
          go_simp
          refine hK.out _ _ (by (try dsimp only); exact K4.out _ (by go_grown)) (fun hHeld => ?_)
          clear hK K
          refine wpAnyH_ready (rs := [8]) (by kernel_rfl) (by simp) ?_
          refine AllReadyH.cons rfl (fun K hK => ?_) AllReadyH.nil
          simp only [List.getElem_toArray, List.getElem_cons_zero, List.getElem_cons_succ]
          go_simp
          go_at_call 68; (with_reducible refine (HMM.out _).mono ?_); rintro e w2 ⟨⟨ax, bx, ay, cy, hL, rfl⟩, hb2⟩; obtain ⟨rfl, rfl⟩ := meetL_parts hL HPE.out HQE.out; clear hL; have hb12 := hHeld.1.trans (hb2.mono hHeld.1.size); have hz2 := hb12.size; have x0 := cellB hb2 (b := w1.heap.size) (o := 0) (x := .int .i64 0) (by go_simp); have x1 := cellB hb2 (b := w1.heap.size) (o := 1) (x := .int .i64 0) (by go_simp); have y0 : w2.frozen? ⟨w1.heap.size, 0, none⟩ = false := (hb2.frozen (p := ⟨w1.heap.size, 0, none⟩) (by simp)).trans (by go_simp); have y1 : w2.frozen? ⟨w1.heap.size, 1, none⟩ = false := (hb2.frozen (p := ⟨w1.heap.size, 1, none⟩) (by simp)).trans (by go_simp); have hz2' : w1.heap.size < w2.heap.size := by have := hb2.size; simp at this; omega
          dsimp only
          refine hK.out _ _ (by (try dsimp only); exact K4.out _ (hHeld.1.trans (hb2.mono hHeld.1.size))) (fun hHeld => ?_)
          clear hK K
          refine wpAnyH_take (i := 9) (v := ?v34) rfl (by kernel_rfl) (by kernel_rfl) (by kernel_rfl) (fun _ _ _ h => h) (Or.inl ⟨by rfl, ?hy34⟩) (by assumption) ?rest34
          case hy34 => (intro w hSw; (try dsimp only at hSw); go_simp; rw [field_x]; rfl)
          simp only [Act.put, List.getElem_toArray, List.getElem_cons_zero, List.getElem_cons_succ, List.setIfInBounds_toArray, List.set_cons_zero, List.set_cons_succ]
          refine wpAnyH_ready (rs := [11]) (by kernel_rfl) (by simp) ?_
          refine AllReadyH.cons rfl (fun K hK => ?_) AllReadyH.nil
          simp only [List.getElem_toArray, List.getElem_cons_zero, List.getElem_cons_succ]
          go_simp
          refine hK.out _ _ (by (try dsimp only); exact K4.out _ ((hb12.setCell (p := ⟨w1.heap.size, 0, none⟩) (Nat.le_refl _) _).setCell (p := ⟨w1.heap.size, 1, none⟩) (Nat.le_refl _) _)) (fun hHeld => ?_)
          clear hK K
          refine wpAnyH_done (by kernel_rfl) ?_ _
          have v0 : ((w2.setCell ⟨w1.heap.size, 0, none⟩ (.int .i64 (P : Nat))).setCell ⟨w1.heap.size, 1, none⟩ (.int .i64 (Q : Nat))).cell? ⟨w1.heap.size, 0, none⟩ = some (.int .i64 (P : Nat)) := by go_simp
          have v1 : ((w2.setCell ⟨w1.heap.size, 0, none⟩ (.int .i64 (P : Nat))).setCell ⟨w1.heap.size, 1, none⟩ (.int .i64 (Q : Nat))).cell? ⟨w1.heap.size, 1, none⟩ = some (.int .i64 (Q : Nat)) := by go_simp
          have HXW := Lib.hid (HBX1.out.later hHeld.1 (by omega))
          have HBW := Lib.hid (hB1.trans (hHeld.1.mono (by omega)))
          have hzW := hHeld.1.size
          obtain ⟨W, hW⟩ : ∃ W, W = ((w2.setCell ⟨w1.heap.size, 0, none⟩ (.int .i64 (P : Nat))).setCell ⟨w1.heap.size, 1, none⟩ (.int .i64 (Q : Nat))) := ⟨_, rfl⟩
          rw [← hW] at v0 v1 HXW HBW hzW ⊢
          have hWgh : w1.heap.size < W.heap.size := by rw [hW]; simp; try omega
          have hgh : w.heap.size < w1.heap.size := by omega
          obtain ⟨gh, hgg⟩ : ∃ g, g = w1.heap.size := ⟨_, rfl⟩
          rw [← hgg] at v0 v1 hWgh hgh ⊢
          clear hW hHeld hgg
          obtain ⟨P0, Q0, b0, b1, z0, z1, hpj⟩ := HXW.out
          cases o with
          | none =>
            have hnx := HNX.out
            simp only at hnx
            have HN := Lib.hid hnx
            clear hnx hpj
            go_wp2
            have i1 : ¬ w.heap.size = gh := by omega
            have i2 : ¬ gh = w.heap.size := by omega
            go_region_held3 (fun w' => w'.cell? ⟨gh, 0, none⟩ = some (.int .i64 (P : Nat)) ∧ w'.cell? ⟨gh, 1, none⟩ = some (.int .i64 (Q : Nat))) (go_keep) (fail)
            go_wp2
            go_roundw
            case rel => exact ⟨m + 1, by omega, by omega, by go_num, by rw [HN.out]; rfl, by rw [HN.out]; rfl, Lib.hid ⟨P, Q, by go_simp, by go_simp, by go_simp, by go_simp, fun j hj => by rw [HN.out] at hj; cases hj; exact ⟨HPX.out.symm, HQX.out.symm⟩⟩, HBW.out.trans (by go_grown), by simp; omega⟩
            case measure => simp [intOf]; omega
          | some j =>
            have hnx := HNX.out
            simp only at hnx
            have hj := nxt_some m j HO.out
            have hbj := ex_bounds HG.out hk (show j < xs.length by omega) hj.2
            obtain ⟨hP0, hQ0⟩ := hpj j rfl
            rw [HPX.out, HQX.out, ← hP0, ← hQ0] at hnx
            rw [← hP0, ← hQ0] at hbj
            obtain ⟨l1, l2⟩ := hbj
            obtain ⟨cv, hcv⟩ : ∃ c, cmpI ((P * Q0 : Nat) : Int) ((P0 * Q : Nat) : Int) = c := ⟨_, rfl⟩
            have HCV := Lib.hid hcv
            have hci := @cmpI_le (P * Q0) (P0 * Q)
            rw [hcv] at hci
            have HX0 := Lib.hid (show ∀ i, some j = some i → P0 = exA xs k i ∧ Q0 = exB xs k i from hpj)
            by_cases hle : P * Q0 ≤ P0 * Q
            · rw [if_pos hle] at hnx
              have hc0 := hci.2 hle
              have HN := Lib.hid hnx
              clear hnx hci hcv hP0 hQ0 hpj hle hj
              go_wp2_with (first | (go_at_call 94; (refine (compareFractions_any P Q P0 Q0 _ hp1 hq1 l1 l2).mono ?_); rintro e w5 ⟨rfl, hb5⟩; rw [HCV.out]; have t0 := cellB hb5 v0; have t1 := cellB hb5 v1; have t2 := cellB hb5 b0; have t3 := cellB hb5 b1; (have t4 := (hb5.frozen (p := ⟨w.heap.size, 0, none⟩) (by show w.heap.size < _; omega)).trans z0); (have t5 := (hb5.frozen (p := ⟨w.heap.size, 1, none⟩) (by show w.heap.size < _; omega)).trans z1); have hz5 := hb5.size; have HB5 := Lib.hid (HBW.out.trans (hb5.mono (by omega)))))
              have i1 : ¬ w.heap.size = gh := by omega
              have i2 : ¬ gh = w.heap.size := by omega
              go_region_held3 (fun w' => w'.cell? ⟨gh, 0, none⟩ = some (.int .i64 (P : Nat)) ∧ w'.cell? ⟨gh, 1, none⟩ = some (.int .i64 (Q : Nat))) (go_keep) (fail)
              go_wp2
              go_roundw
              case rel => exact ⟨m + 1, by omega, by omega, by go_num, by rw [HN.out]; rfl, by rw [HN.out]; rfl, Lib.hid ⟨P, Q, by go_simp, by go_simp, by go_simp, by go_simp, fun j hj => by rw [HN.out] at hj; cases hj; exact ⟨HPX.out.symm, HQX.out.symm⟩⟩, HB5.out.trans (by go_grown), by simp; omega⟩
              case measure => simp [intOf]; omega
            · rw [if_neg hle] at hnx
              have hc0 : ¬ cv ≤ 0 := fun h => hle (hci.1 h)
              have HN := Lib.hid hnx
              clear hnx hci hcv hP0 hQ0 hpj hle hj
              go_wp2_with (first | (go_at_call 94; (refine (compareFractions_any P Q P0 Q0 _ hp1 hq1 l1 l2).mono ?_); rintro e w5 ⟨rfl, hb5⟩; rw [HCV.out]; have hz5 := hb5.size; have HB5 := Lib.hid (HBW.out.trans (hb5.mono (by omega))); have HX5 := Lib.hid (HXW.out.later hb5 (by omega))))
              go_roundw
              case rel => exact ⟨m + 1, by omega, by omega, by go_num, by rw [HN.out]; rfl, by rw [HN.out]; rfl, Lib.hid (by rw [HN.out]; exact HX5.out), HB5.out, by omega⟩
              case measure => simp [intOf]; omega
    · obtain rfl : m = xs.length := by omega
      go_wp2
      go_ret2
      exact ⟨rfl, hB⟩

end Go.Proofs.Ytpcebcgmbngabab
